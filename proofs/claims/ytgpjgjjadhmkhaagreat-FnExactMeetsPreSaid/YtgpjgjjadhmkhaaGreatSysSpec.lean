import Derived.Test.YtgpjgjjadhmkhaaGreatRepSys
import Derived.Test.YtgpjgjjadhmkhaaGreatLinSpec
/-
  The model's functions on systems: validity, satisfaction, comparison.
-/
namespace Go.Proofs.YtgpjgjjadhmkhaaGreat
open Go.RowKit
namespace SysS
open RowK Mem LinM

/-- The system is valid. -/
def sysV (n : Int) (xs : List (Int × List Int)) : Bool := xs.all (fun x => vldB x.1 x.2 n) && (cntB n && decide (xs.length ≤ 20))
theorem all_no {p : Int × List Int → Bool} {xs : List (Int × List Int)} {k : Nat} (hk : k < xs.length) (h : p xs[k] = false) : xs.all p = false := by
  rw [List.all_eq_false]
  exact ⟨xs[k], List.getElem_mem _, by simp [h]⟩
theorem all_take {α : Type} {p : α → Bool} {xs : List α} {k : Nat} (hk : k < xs.length) (h : (xs.take k).all p = true) (h2 : p xs[k] = true) : (xs.take (k + 1)).all p = true := by
  rw [List.take_add_one, List.getElem?_eq_getElem hk, List.all_append, h]
  simp [h2]

set_option maxHeartbeats 1000000 in
set_option maxRecDepth 100000 in
theorem valid (q : Bool) (fp : List Nat) (n : Int) (A : Option Addr) (c : Nat) (xs : List (Int × List Int)) (w : World) (hA : lins.rep q w fp [.slice A xs.length c] xs) (hl : linsSize xs ≤ 1000000000) :
    Calls Tryz.prog 54 #[.agg #[.int .i64 n, .slice A xs.length c]] w fun e w' => e = .returned (.bool (sysV n xs)) ∧ Below w.heap.size w w' := by
  have hxl : xs.length ≤ 1000000000 := by unfold linsSize at hl; omega
  have HSZ := Lib.hid (fun x (h : x ∈ xs) => linsSize_mem h)
  have HL := Lib.hid hl
  have B0 := Lib.hid (show Below w.heap.size w (w.alloc (Obj.cells #[Value.int IntKind.i64 n, Value.slice A xs.length c] 47)) from (Below.refl _ _).alloc (Nat.le_refl _) _)
  have V0 := Lib.hid (Lvar.new w #[Value.int IntKind.i64 n, Value.slice A xs.length c] 47)
  have HA := Lib.hid hA
  have CN := Lib.hid (LinS.cnt n)
  clear hl hA
  go_enter Tryz.func54, Tryz.ntmps54
  go_wp2
  go_loopw [3] (fun i wr => ∃ k : Nat, k ≤ xs.length ∧ i = .int .i64 k ∧ (xs.take k).all (fun x => vldB x.1 x.2 n) = true ∧ Lvar wr w.heap.size #[Value.int IntKind.i64 n, Value.slice A xs.length c] ∧ Below w.heap.size w wr) (fun i _ => xs.length - (intOf i).toNat)
  case atStart => exact ⟨0, Nat.zero_le _, rfl, rfl, V0.out, B0.out⟩
  case round =>
    obtain ⟨k, hk, rfl, hall, hV, hb⟩ := hrel
    have v0 := hV.cell 0 (.int .i64 n) rfl
    have v1 := hV.cell 1 (.slice A xs.length c) rfl
    have HAL := Lib.hid hall
    have HV := Lib.hid hV
    have HB := Lib.hid hb
    clear hall hV hb
    by_cases hlt : k < xs.length
    · obtain ⟨b, o, B, d, lo, hi, rfl, hbb, c0, c1, _, r1⟩ := lins_at (Rep.below HA.out HB.out) hlt
      have hx := HSZ.out _ (List.getElem_mem hlt)
      have hs9 : xs[k].2.length ≤ 1000000000 := by have := HL.out; omega
      have HN := Lib.hid (fun h => all_no (p := fun x => vldB x.1 x.2 n) hlt h)
      have HY := Lib.hid (fun h => all_take (p := fun x => vldB x.1 x.2 n) hlt HAL.out h)
      clear hx
      generalize xs[k] = x at *
      obtain ⟨z, zs⟩ := x
      simp only at c0 c1 r1 hs9
      have hd : Below wr.heap.size wr wr.drew := (Below.refl _ _).drew
      have VL := Lib.hid (LinS.valid lo hi z B d zs n wr.drew (r1.below hd) hs9)
      have hi0 : (0 : Int) ≤ (k : Int) := by omega
      have hi1 : (k : Int) < (xs.length : Int) := by omega
      cases hv : vldB z zs n with
      | false =>
        have HR := Lib.hid (show sysV n xs = false by unfold sysV; rw [HN.out hv]; rfl)
        rw [hv] at VL
        clear r1 hd HN HY hv
        go_wp2_with fail
        go_region_law (first
          | (go_simp; go_at_call 96; refine (Calls.mono VL.out) ?_; rintro e w1 ⟨rfl, b1⟩))
        all_goals
          have B1' := Lib.hid (HB.out.trans (((Below.refl wr.heap.size wr).drew.trans b1).mono HB.out.size))
          clear b1
          go_wp2
          go_ret
          exact ⟨by rw [HR.out]; rfl, B1'.out⟩
      | true =>
        have HT := Lib.hid (HY.out hv)
        rw [hv] at VL
        clear r1 hd HN HY hv
        go_wp2_with fail
        go_region_law (first
          | (go_simp; go_at_call 96; refine (Calls.mono VL.out) ?_; rintro e w1 ⟨rfl, b1⟩))
        all_goals
          have dd := (Below.refl wr.heap.size wr).drew.trans b1
          have B1' := Lib.hid (HB.out.trans (dd.mono HB.out.size))
          have V1' := Lib.hid (HV.out.below dd)
          clear b1 dd
          go_wp2
          go_roundw
          case rel => exact ⟨k + 1, by omega, by go_num, HT.out, V1'.out, B1'.out⟩
          case measure => simp [intOf]; omega
    · obtain rfl : k = xs.length := by omega
      have HAX := Lib.hid (show xs.all (fun x => vldB x.1 x.2 n) = true by have := HAL.out; rwa [List.take_length] at this)
      have HR := Lib.hid (show sysV n xs = (cntB n && decide (xs.length ≤ 20)) by unfold sysV; rw [HAX.out]; rfl)
      clear HAL HAX
      generalize cntB n = q at *
      cases q with
      | false =>
        go_wp2_with fail
        refine (Calls.mono (CN.out _)) ?_
        rintro e w' ⟨rfl, rfl⟩
        go_wp2
        go_ret
        exact ⟨by rw [HR.out]; rfl, HB.out⟩
      | true =>
        go_wp2_with fail
        refine (Calls.mono (CN.out _)) ?_
        rintro e w' ⟨rfl, rfl⟩
        go_wp2
        go_ret
        exact ⟨by rw [HR.out]; simp; omega, HB.out⟩

/-- The values satisfy the system. -/
def satB (n : Int) (xs : List (Int × List Int)) (us : List Int) : Bool := us.all ArithM.inF && ((sysV n xs && decide ((us.length : Int) = n)) && xs.all (fun x => decide (0 ≤ (evalL x.1 x.2 us).getD 0)))
def SatRel (w : World) (n : Int) (A : Option Addr) (c : Nat) (xs : List (Int × List Int)) (us : List Int) (i : Value) (wr : World) : Prop :=
  ∃ k : Nat, k ≤ us.length ∧ i = .int .i64 k ∧ (us.take k).all ArithM.inF = true ∧ Lvar wr w.heap.size #[Value.int IntKind.i64 n, Value.slice A xs.length c] ∧ Below w.heap.size w wr
def SatRel2 (w : World) (n : Int) (A : Option Addr) (c : Nat) (xs : List (Int × List Int)) (us : List Int) (i : Value) (wr : World) : Prop :=
  ∃ k : Nat, k ≤ xs.length ∧ i = .int .i64 k ∧ (xs.take k).all (fun x => decide (0 ≤ (evalL x.1 x.2 us).getD 0)) = true ∧ Lvar wr w.heap.size #[Value.int IntKind.i64 n, Value.slice A xs.length c] ∧ Below w.heap.size w wr
theorem all_no1 {p : Int → Bool} {xs : List Int} {k : Nat} (hk : k < xs.length) (h : p xs[k] = false) : xs.all p = false := by
  rw [List.all_eq_false]
  exact ⟨xs[k], List.getElem_mem _, by simp [h]⟩

set_option maxHeartbeats 2000000 in
set_option maxRecDepth 100000 in
theorem satisfies (q : Bool) (fp : List Nat) (lo hi : Nat) (n : Int) (A B : Option Addr) (c d : Nat) (xs : List (Int × List Int)) (us : List Int) (w : World) (hA : lins.rep q w fp [.slice A xs.length c] xs) (hl : linsSize xs ≤ 1000000000) (hB : Row lo hi w B (IntK.iv us)) (hl2 : us.length ≤ 1000000000) :
    Calls Tryz.prog 23 #[.agg #[.int .i64 n, .slice A xs.length c], .slice B us.length d] w fun e w' => e = .returned (.bool (satB n xs us)) ∧ Below w.heap.size w w' := by
  have hxl : xs.length ≤ 1000000000 := by unfold linsSize at hl; omega
  have HSZ := Lib.hid (fun x (h : x ∈ xs) => linsSize_mem h)
  have HL := Lib.hid hl
  have B0 := Lib.hid (show Below w.heap.size w (w.alloc (Obj.cells #[Value.int IntKind.i64 n, Value.slice A xs.length c] 47)) from (Below.refl _ _).alloc (Nat.le_refl _) _)
  have V0 := Lib.hid (Lvar.new w #[Value.int IntKind.i64 n, Value.slice A xs.length c] 47)
  have HA := Lib.hid hA
  have HB := Lib.hid hB
  have FI := Lib.hid ArithS.fits
  have VS := Lib.hid (fun W (h : Below w.heap.size w W) => valid q fp n A c xs W (Rep.below hA h) hl)
  clear hl hA hB
  go_enter Tryz.func23, Tryz.ntmps23
  go_wp2
  go_loopw [5] (fun i wr => SatRel w n A c xs us i wr) (fun i _ => us.length - (intOf i).toNat)
  case atStart => exact ⟨0, Nat.zero_le _, rfl, rfl, V0.out, B0.out⟩
  case round =>
    obtain ⟨k, hk, rfl, hall, hV, hb⟩ := hrel
    have HAL := Lib.hid hall
    have HV := Lib.hid hV
    have HBB := Lib.hid hb
    clear hall hV hb
    by_cases hlt : k < us.length
    · obtain ⟨bb, ob, rfl, hbb, hc⟩ := IntK.at_ (HB.out.below HBB.out) hlt
      have HN := Lib.hid (fun h => all_no1 (p := ArithM.inF) hlt h)
      have HY := Lib.hid (fun h => all_take (p := ArithM.inF) hlt HAL.out h)
      generalize us[k] = x at *
      have F1 := Lib.hid (FI.out x wr)
      have hi0 : (0 : Int) ≤ (k : Int) := by omega
      have hi1 : (k : Int) < (us.length : Int) := by omega
      cases hv : ArithM.inF x with
      | false =>
        have HR := Lib.hid (show satB n xs us = false by unfold satB; rw [HN.out hv]; rfl)
        rw [hv] at F1
        clear HN HY hv
        go_wp2_with fail
        refine (Calls.mono F1.out) ?_
        rintro e w' ⟨rfl, rfl⟩
        go_wp2
        go_ret
        exact ⟨by rw [HR.out]; rfl, HBB.out⟩
      | true =>
        have HT := Lib.hid (HY.out hv)
        rw [hv] at F1
        clear HN HY hv
        go_wp2_with fail
        refine (Calls.mono F1.out) ?_
        rintro e w' ⟨rfl, rfl⟩
        go_wp2
        go_roundw
        case rel => exact ⟨k + 1, by omega, by go_num, HT.out, HV.out, HBB.out⟩
        case measure => simp [intOf]; omega
    · obtain rfl : k = us.length := by omega
      have HUA := Lib.hid (show us.all ArithM.inF = true by have := HAL.out; rwa [List.take_length] at this)
      have HS1 := Lib.hid (show satB n xs us = ((sysV n xs && decide ((us.length : Int) = n)) && xs.all (fun x => decide (0 ≤ (evalL x.1 x.2 us).getD 0))) by unfold satB; rw [HUA.out]; rfl)
      have v0 := HV.out.cell 0 (.int .i64 n) rfl
      have v1 := HV.out.cell 1 (.slice A xs.length c) rfl
      have VS1 := VS.out wr HBB.out
      clear HAL
      by_cases hs : sysV n xs = true
      · rw [hs] at VS1
        have VS2 := Lib.hid VS1
        clear VS1
        by_cases hn : (us.length : Int) = n
        · have hne : ((us.length : Int) != n) = false := by simp [hn]
          have HS2 := Lib.hid (show satB n xs us = xs.all (fun x => decide (0 ≤ (evalL x.1 x.2 us).getD 0)) by rw [HS1.out, hs, decide_eq_true hn]; rfl)
          clear HS1 hs hn
          go_wp2_with fail
          refine (Calls.mono VS2.out) ?_
          rintro e w1 ⟨rfl, b1⟩
          have B1 := Lib.hid (HBB.out.trans (b1.mono HBB.out.size))
          have V1 := Lib.hid (HV.out.below b1)
          clear b1 v0 v1
          have v0 := V1.out.cell 0 (.int .i64 n) rfl
          have v1 := V1.out.cell 1 (.slice A xs.length c) rfl
          go_wp2
          clear v0 v1
          go_loopw [6] (fun i wr => SatRel2 w n A c xs us i wr) (fun i _ => xs.length - (intOf i).toNat)
          case atStart => exact ⟨0, Nat.zero_le _, rfl, rfl, V1.out, B1.out⟩
          case round =>
            obtain ⟨k, hk, rfl, hall, hV, hb⟩ := hrel
            have HAL := Lib.hid hall
            have HV2 := Lib.hid hV
            have HB2 := Lib.hid hb
            have v0 := HV2.out.cell 0 (.int .i64 n) rfl
            have v1 := HV2.out.cell 1 (.slice A xs.length c) rfl
            clear hall hV hb
            by_cases hlt : k < xs.length
            · obtain ⟨b, o, C, e', lo1, hi1, rfl, hbb, c0, c1, _, r1⟩ := lins_at (Rep.below HA.out HB2.out) hlt
              have hx := HSZ.out _ (List.getElem_mem hlt)
              have hs9 : xs[k].2.length ≤ 1000000000 := by have := HL.out; omega
              have HN := Lib.hid (fun h => all_no (p := fun x => decide (0 ≤ (evalL x.1 x.2 us).getD 0)) hlt h)
              have HY := Lib.hid (fun h => all_take (p := fun x => decide (0 ≤ (evalL x.1 x.2 us).getD 0)) hlt HAL.out h)
              clear hx
              generalize xs[k] = x at *
              obtain ⟨z, zs⟩ := x
              simp only at c0 c1 r1 hs9
              have EV := Lib.hid (LinS.eval lo1 hi1 lo hi z C B e' d zs us wr r1 (HB.out.below HB2.out) hs9 hl2)
              have HN2 := Lib.hid (HN.out)
              have HY2 := Lib.hid (HY.out)
              simp only at HN2 HY2
              have hi0 : (0 : Int) ≤ (k : Int) := by omega
              have hi1' : (k : Int) < (xs.length : Int) := by omega
              clear r1 HN HY
              generalize (evalL z zs us).getD 0 = v at *
              generalize (evalL z zs us).isSome = p at *
              by_cases hv : 0 ≤ v
              · have hvd : decide (v < 0) = false := decide_eq_false (by omega)
                have HT := Lib.hid (HY2.out (decide_eq_true hv))
                clear hv HN2 HY2
                go_wp2_with fail
                refine (Calls.mono EV.out) ?_
                rintro e w2 ⟨rfl, b2⟩
                have B3 := Lib.hid (HB2.out.trans (b2.mono HB2.out.size))
                have V3 := Lib.hid (HV2.out.below b2)
                clear b2
                go_wp2
                go_roundw
                case rel => exact ⟨k + 1, by omega, by go_num, HT.out, V3.out, B3.out⟩
                case measure => simp [intOf]; omega
              · have hvd : decide (v < 0) = true := decide_eq_true (by omega)
                have HR := Lib.hid (show satB n xs us = false by rw [HS2.out]; exact HN2.out (decide_eq_false hv))
                clear hv HN2 HY2
                go_wp2_with fail
                refine (Calls.mono EV.out) ?_
                rintro e w2 ⟨rfl, b2⟩
                have B3 := Lib.hid (HB2.out.trans (b2.mono HB2.out.size))
                clear b2
                go_wp2
                go_ret
                exact ⟨by rw [HR.out]; rfl, B3.out⟩
            · obtain rfl : k = xs.length := by omega
              have HR := Lib.hid (show satB n xs us = true by rw [HS2.out]; have := HAL.out; rwa [List.take_length] at this)
              clear HAL
              go_wp2
              go_ret
              exact ⟨by rw [HR.out]; rfl, HB2.out⟩
        · have hne : ((us.length : Int) != n) = true := by simpa using hn
          have hne2 : ((us.length : Int) == n) = false := beq_eq_false_iff_ne.2 hn
          have HR := Lib.hid (show satB n xs us = false by rw [HS1.out, hs, decide_eq_false hn]; rfl)
          clear HS1 hs hn
          go_wp2_with fail
          refine (Calls.mono VS2.out) ?_
          rintro e w1 ⟨rfl, b1⟩
          have B1 := Lib.hid (HBB.out.trans (b1.mono HBB.out.size))
          have V1 := Lib.hid (HV.out.below b1)
          clear b1 v0 v1
          have v0 := V1.out.cell 0 (.int .i64 n) rfl
          have v1 := V1.out.cell 1 (.slice A xs.length c) rfl
          go_wp2
          go_ret
          exact ⟨by rw [HR.out]; rfl, B1.out⟩
      · have hs : sysV n xs = false := by simpa using hs
        have HR := Lib.hid (show satB n xs us = false by rw [HS1.out, hs]; rfl)
        rw [hs] at VS1
        have VS2 := Lib.hid VS1
        clear VS1 HS1 hs
        go_wp2_with fail
        refine (Calls.mono VS2.out) ?_
        rintro e w1 ⟨rfl, b1⟩
        have B1 := Lib.hid (HBB.out.trans (b1.mono HBB.out.size))
        clear b1
        go_wp2
        go_ret
        exact ⟨by rw [HR.out]; rfl, B1.out⟩
end SysS
end Go.Proofs.YtgpjgjjadhmkhaaGreat
