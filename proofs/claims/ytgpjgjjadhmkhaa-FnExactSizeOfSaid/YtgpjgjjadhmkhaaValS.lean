import Derived.Test.YtgpjgjjadhmkhaaValMath
import Derived.Test.YtgpjgjjadhmkhaaPgmDec0
import Derived.Test.YtgpjgjjadhmkhaaLinSpec
import Derived.Test.YtgpjgjjadhmkhaaSysSpec
import Derived.Deep.QuietTactic
import Derived.BigQuiet
import Derived.Deep.RegionLaw
/-
  Values and outcomes: of the model (made by tools/s12.py).
-/
namespace Go.Proofs.Ytgpjgjjadhmkhaa
open Go.RowKit
namespace ValS
open RowK Mem ValM
theorem size (z0 : Bool) (z1 : Int) (A2 : Option Addr) (c2 n2 : Nat) (x2 : List Int) (hn : n2 = x2.length) (w : World) :
    Calls Try.prog 11 #[.agg #[.bool z0, .int .i64 z1, .slice A2 n2 c2]] w fun e w' => e = .returned (.int .i64 (sizeV z0 z1 x2)) ∧ Below w.heap.size w w' := by
  subst hn
  cases z0 with
  | true =>
    go_enter Try.func11, Try.ntmps11
    go_wp2
    go_ret
    exact ⟨rfl, (Below.refl _ _).alloc (Nat.le_refl _) _⟩
  | false =>
    go_enter Try.func11, Try.ntmps11
    go_wp2
    go_ret
    exact ⟨rfl, (Below.refl _ _).alloc (Nat.le_refl _) _⟩
theorem v_no {z0 : Bool} {z1 : Int} {xs : List Int} {k : Nat} (hk : k < xs.length) (h : ArithM.inF xs[k] = false) : valV z0 z1 xs = false := by
  have ha : xs.all ArithM.inF = false := by
    rw [List.all_eq_false]
    exact ⟨xs[k], List.getElem_mem _, by simp [h]⟩
  unfold valV
  cases z0
  · rw [if_neg (by simp), decide_eq_false (show ¬ xs.length = 0 by omega), Bool.and_false]
  · rw [if_pos rfl, ha, Bool.and_false]
theorem v_list {z1 : Int} {xs : List Int} (h : xs.all ArithM.inF = true) : valV true z1 xs = (decide (z1 = 0) && decide (xs.length ≤ 40)) := by
  unfold valV
  rw [if_pos rfl, h, Bool.and_true]
set_option maxHeartbeats 1000000 in
set_option maxRecDepth 100000 in
theorem valid (z0 : Bool) (z1 : Int) (A2 : Option Addr) (c2 : Nat) (x2 : List Int) (w : World) (h : ArgS Rep.int w A2 x2.length c2 x2) (hl : x2.length ≤ 1000000000) :
    Calls Try.prog 7 #[.agg #[.bool z0, .int .i64 z1, .slice A2 x2.length c2]] w fun e w' => e = .returned (.bool (valV z0 z1 x2)) ∧ Below w.heap.size w w' := by
  obtain ⟨q, fp, h⟩ := h
  obtain ⟨lo, hi, _, hr, _⟩ := ints_row h
  have BB := Lib.hid (show Below w.heap.size w (w.alloc (Obj.cells #[Value.bool z0, Value.int .i64 z1, Value.slice A2 x2.length c2] 27)) from (Below.refl _ _).alloc (Nat.le_refl _) _)
  have V0 := Lib.hid (Lvar.new w #[Value.bool z0, Value.int .i64 z1, Value.slice A2 x2.length c2] 27)
  have FI := Lib.hid ArithS.fits
  have HA := Lib.hid hr
  clear h hr
  go_enter Try.func7, Try.ntmps7
  go_wp2
  go_loopw [3] (fun i wr => ∃ k : Nat, k ≤ x2.length ∧ i = .int .i64 k ∧ (x2.take k).all ArithM.inF = true ∧ Lvar wr w.heap.size #[Value.bool z0, Value.int .i64 z1, Value.slice A2 x2.length c2] ∧ Below w.heap.size w wr) (fun i _ => x2.length - (intOf i).toNat)
  case atStart => exact ⟨0, Nat.zero_le _, rfl, rfl, V0.out, BB.out⟩
  case round =>
    obtain ⟨k, hk, rfl, hall, hV, hb⟩ := hrel
    have v0 := hV.cell 0 (.bool z0) rfl
    have v1 := hV.cell 1 (.int .i64 z1) rfl
    have v2 := hV.cell 2 (.slice A2 x2.length c2) rfl
    have HAL := Lib.hid hall
    have HV := Lib.hid hV
    have HB := Lib.hid hb
    clear hall hV hb
    by_cases hlt : k < x2.length
    · obtain ⟨b, o, rfl, hbl, hc⟩ := IntK.at_below HA.out HB.out hlt
      have HN := Lib.hid (fun h => v_no (z0 := z0) (z1 := z1) hlt h)
      have HY := Lib.hid (fun h => SysS.all_take (p := ArithM.inF) hlt HAL.out h)
      have hi0 : (0 : Int) ≤ (k : Int) := by omega
      have hi1 : (k : Int) < (x2.length : Int) := by omega
      generalize x2[k] = x at *
      have FX := Lib.hid (FI.out x)
      generalize ArithM.inF x = t at *
      cases t with
      | false =>
        have HR := Lib.hid (HN.out rfl)
        clear HN HY
        go_wp2_with fail
        refine (Calls.mono (FX.out _)) ?_
        rintro e w1 ⟨rfl, rfl⟩
        go_wp2
        go_ret
        exact ⟨by rw [HR.out]; try rfl, by first | exact HB.out | exact HB.out.drew | exact below_drewN HB.out _⟩
      | true =>
        have HT := Lib.hid (HY.out rfl)
        clear HN HY
        go_wp2_with fail
        refine (Calls.mono (FX.out _)) ?_
        rintro e w1 ⟨rfl, rfl⟩
        go_wp2
        go_roundw
        case rel => exact ⟨k + 1, by omega, by go_num, HT.out, by first | exact HV.out, by first | exact HB.out⟩
        case measure => simp [intOf]; omega
    · obtain rfl : k = x2.length := by omega
      have HAX := Lib.hid (show x2.all ArithM.inF = true by have := HAL.out; rwa [List.take_length] at this)
      clear HAL
      cases z0 with
      | true =>
        by_cases h1 : z1 = 0
        · subst h1
          go_wp2
          go_ret
          exact ⟨ArithI.ret_bool (by rw [v_list HAX.out, decide_eq_true rfl, Bool.true_and]; exact decide_eq_decide.2 (by omega)), HB.out⟩
        · have h9 : (z1 == 0) = false := beq_eq_false_iff_ne.2 h1
          go_wp2
          go_ret
          exact ⟨ArithI.ret_bool (by rw [v_list HAX.out, decide_eq_false h1]; rfl), HB.out⟩
      | false =>
        have FX := Lib.hid (FI.out z1)
        have HR := Lib.hid (val_int (z := z1) (xs := x2))
        generalize ArithM.inF z1 = t at *
        cases t with
        | true =>
          go_wp2_with fail
          refine (Calls.mono (FX.out _)) ?_
          rintro e w1 ⟨rfl, rfl⟩
          go_wp2
          go_ret
          exact ⟨ArithI.ret_bool (by rw [HR.out, Bool.true_and]; exact len0 _), HB.out⟩
        | false =>
          go_wp2_with fail
          refine (Calls.mono (FX.out _)) ?_
          rintro e w1 ⟨rfl, rfl⟩
          go_wp2
          go_ret
          exact ⟨ArithI.ret_bool (by rw [HR.out]; rfl), HB.out⟩

set_option maxHeartbeats 1000000 in
set_option maxRecDepth 100000 in
/-- Integers compared: nothing is written, only draws are used. -/
theorem ints (lo hi lo' hi' : Nat) (A B : Option Addr) (c d : Nat) (zs us : List Int) (w : World) (hA : Row lo hi w A (IntK.iv zs)) (hB : Row lo' hi' w B (IntK.iv us)) (hl : zs.length ≤ 1000000000) (hl2 : us.length ≤ 1000000000) :
    Calls Try.prog 27 #[.slice A zs.length c, .slice B us.length d] w fun e w' => e = .returned (.bool (decide (zs = us))) ∧ ∃ m, w' = w.drewN m := by
  by_cases h2 : zs.length = us.length
  · have hyes := Lib.hid (fun (h : ∀ j (h1 : j < zs.length) (h2 : j < us.length), zs[j] = us[j]) => (show decide (zs = us) = true from decide_eq_true (List.ext_getElem h2 h)))
    have hno := Lib.hid (fun j (h1 : j < zs.length) (h2 : j < us.length) (h : zs[j] ≠ us[j]) => (show decide (zs = us) = false from decide_eq_false (fun e => h (by subst e; rfl))))
    have H2 := Lib.hid h2
    have hne : ((zs.length : Int) != (us.length : Int)) = false := by simp [h2]
    clear h2
    generalize decide (zs = us) = R at *
    go_enter Try.func27, Try.ntmps27
    go_wp2
    go_loopw [5] (fun i wr => ∃ k : Nat, k ≤ zs.length ∧ i = .int .i64 k ∧ (∀ j (h1 : j < zs.length) (h2 : j < us.length), j < k → zs[j] = us[j]) ∧ ∃ m, wr = w.drewN m) (fun i _ => zs.length - (intOf i).toNat)
    case atStart => exact ⟨0, Nat.zero_le _, rfl, fun j _ _ h => by omega, 0, rfl⟩
    case round =>
      obtain ⟨k, hk, rfl, hpre, m, rfl⟩ := hrel
      have HP := Lib.hid hpre
      clear hpre
      by_cases hlt : k < zs.length
      · have hlt2 : k < us.length := by rw [← H2.out]; exact hlt
        obtain ⟨b1, o1, rfl, _, hc1⟩ := IntK.at_ hA hlt
        obtain ⟨b2, o2, rfl, _, hc2⟩ := IntK.at_ hB hlt2
        have hn := Lib.hid (hno.out k hlt hlt2)
        have hs := Lib.hid (fun (h : zs[k] = us[k]) j (h1 : j < zs.length) (h2 : j < us.length) (h3 : j < k + 1) => (show zs[j] = us[j] from by
          by_cases e : j = k
          · subst e; exact h
          · exact HP.out j h1 h2 (by omega)))
        generalize zs[k] = x at *
        generalize us[k] = y at *
        have hi0 : (0 : Int) ≤ (k : Int) := by omega
        have hi1 : (k : Int) < (zs.length : Int) := by omega
        have hi2 : (k : Int) < (us.length : Int) := by omega
        clear hno hyes
        by_cases hxy : x = y
        · have hs' := Lib.hid (hs.out hxy)
          clear hs hn
          subst hxy
          go_wp2
          go_quiet (fail)
          go_wp2
          go_roundw
          case rel => exact ⟨k + 1, by omega, by go_num, hs'.out, _, rfl⟩
          case measure => simp [intOf]; omega
        · have hn' := Lib.hid (hn.out hxy)
          have hxy' : (x != y) = true := by simpa using hxy
          clear hs hn hxy
          go_wp2
          go_quiet (fail)
          go_wp2
          go_ret
          exact ⟨ArithI.ret_bool hn'.out.symm, _, World.drewN_drewN _ _ _⟩
      · obtain rfl : k = zs.length := by omega
        have hv := Lib.hid (hyes.out (fun j h1 h2 => HP.out j h1 h2 h1))
        clear hyes hno
        go_wp2
        go_ret
        exact ⟨ArithI.ret_bool hv.out.symm, _, rfl⟩
  · have hne : ((zs.length : Int) != (us.length : Int)) = true := by simp; omega
    rw [decide_eq_false (show ¬ zs = us from fun e => h2 (by rw [e]))]
    clear h2
    go_enter Try.func27, Try.ntmps27
    go_wp2
    go_ret
    exact ⟨rfl, 0, rfl⟩
theorem take_same {α : Type} {xs ys : List α} {k : Nat} (h1 : k < xs.length) (h2 : k < ys.length) (h : xs.take k = ys.take k) (he : xs[k] = ys[k]) : xs.take (k + 1) = ys.take (k + 1) := by
  rw [List.take_succ_eq_append_getElem h1, List.take_succ_eq_append_getElem h2, h, he]
set_option maxHeartbeats 4000000 in
set_option maxRecDepth 100000 in
theorem same (A B : Option Addr) (c d : Nat) (xs ys : List ValueT) (w : World) (hA : ArgS valu w A xs.length c xs) (hB : ArgS valu w B ys.length d ys) (hl : xs.length + szs szValueU xs ≤ 100000000) (hl2 : ys.length + szs szValueU ys ≤ 100000000) :
    Calls Try.prog 24 #[.slice A xs.length c, .slice B ys.length d] w fun e w' => e = .returned (.bool (decide (xs = ys))) ∧ Below w.heap.size w w' := by
  have hxl : xs.length ≤ 1000000000 := by omega
  by_cases hlen : xs.length = ys.length
  · have HEN := Lib.hid hlen
    have HL := Lib.hid hl
    have HL2 := Lib.hid hl2
    have HA := Lib.hid hA
    have HB := Lib.hid hB
    rw [← hlen]
    clear hA hB hlen hl hl2
    go_enter Try.func24, Try.ntmps24
    go_wp2
    go_loopw [5] (fun i wr => ∃ k : Nat, k ≤ xs.length ∧ i = .int .i64 k ∧ xs.take k = ys.take k ∧ Below w.heap.size w wr) (fun i _ => xs.length - (intOf i).toNat)
    case atStart => exact ⟨0, Nat.zero_le _, rfl, rfl, Below.refl _ _⟩
    case round =>
      obtain ⟨k, hk, rfl, hall, hb⟩ := hrel
      have HAL := Lib.hid hall
      have HBB := Lib.hid hb
      clear hall hb
      by_cases hlt : k < xs.length
      · have hlt2 : k < ys.length := by have := HEN.out; omega
        obtain ⟨b1, o1, A2, c2, rfl, hbb1, g0, g1, g2, r2⟩ := (HA.out.below HBB.out).valu_at hlt
        obtain ⟨b2, o2, B2, d2, rfl, hbb2, e0, e1, e2, q2⟩ := (HB.out.below HBB.out).valu_at hlt2
        have hs9 : xs[k].2.2.length ≤ 1000000000 := by
          have := HL.out
          have := szs_mem (sz := szValueU) (List.getElem_mem hlt)
          simp only [szValueU] at this
          omega
        have hs8 : ys[k].2.2.length ≤ 1000000000 := by
          have := HL2.out
          have := szs_mem (sz := szValueU) (List.getElem_mem hlt2)
          simp only [szValueU] at this
          omega
        have HN := Lib.hid (show xs[k] ≠ ys[k] → decide (xs = ys) = false from fun h => decide_eq_false (fun e => h (by subst e; rfl)))
        have HY := Lib.hid (fun h => take_same hlt hlt2 HAL.out h)
        generalize xs[k] = x at *
        generalize ys[k] = y at *
        obtain ⟨z0, z1, x2⟩ := x
        obtain ⟨u0, u1, y2⟩ := y
        simp only at g0 g1 g2 e0 e1 e2 r2 q2 hs9 hs8
        obtain ⟨p7, f7, r2⟩ := r2
        obtain ⟨p8, f8, q2⟩ := q2
        obtain ⟨lo, hi, _, hr, _⟩ := ints_row r2
        obtain ⟨lo2, hi2, _, hr2, _⟩ := ints_row q2
        have EQ := Lib.hid (fun n => ints lo hi lo2 hi2 A2 B2 c2 d2 x2 y2 (wr.drewN n) (hr.below (below_drewN (Below.refl _ _) n)) (hr2.below (below_drewN (Below.refl _ _) n)) hs9 hs8)
        have hi0 : (0 : Int) ≤ (k : Int) := by omega
        have hi1 : (k : Int) < (xs.length : Int) := by omega
        have hi2 : (k : Int) < (ys.length : Int) := by omega
        clear r2 q2 hr hr2
        by_cases v0 : z0 = u0
        · subst v0
          by_cases v1 : z1 = u1
          · subst v1
            by_cases v2 : x2 = y2
            · have HT := Lib.hid (HY.out (by rw [v2]))
              rw [decide_eq_true v2] at EQ
              clear HN HY v2
              cases z0
              all_goals
                go_wp2
                go_quiet (first | (go_at_call 27; exact Calls.quiet_of (EQ.out _)))
                go_wp2
                go_roundw
                case rel => exact ⟨k + 1, by omega, by go_num, HT.out, below_drewN HBB.out _⟩
                case measure => simp [intOf]; omega
            · have HR := Lib.hid (HN.out (fun e => v2 (congrArg (fun p : ValueT => p.2.2) e)))
              rw [decide_eq_false v2] at EQ
              clear HN HY v2
              cases z0
              all_goals
                go_wp2
                go_quiet (first | (go_at_call 27; exact Calls.quiet_of (EQ.out _)))
                go_wp2
                go_ret
                exact ⟨by rw [HR.out]; try rfl, below_drewN HBB.out _⟩
          · have HR := Lib.hid (HN.out (fun e => v1 (congrArg (fun p : ValueT => p.2.1) e)))
            have hd1 : (z1 != u1) = true := by simpa using v1
            clear HN HY v1 EQ
            cases z0
            all_goals
              go_wp2
              go_quiet (fail)
              go_wp2
              go_ret
              exact ⟨by rw [HR.out]; try rfl, below_drewN HBB.out _⟩
        · have HR := Lib.hid (HN.out (fun e => v0 (congrArg (fun p : ValueT => p.1) e)))
          clear HN HY EQ
          cases z0 <;> cases u0
          case false.false => exact absurd rfl v0
          case true.true => exact absurd rfl v0
          all_goals
            clear v0
            go_wp2
            go_quiet (fail)
            go_wp2
            go_ret
            exact ⟨by rw [HR.out]; try rfl, below_drewN HBB.out _⟩
      · obtain rfl : k = xs.length := by omega
        have HR := Lib.hid (show decide (xs = ys) = true by
          refine decide_eq_true ?_
          have := HAL.out
          rwa [List.take_length, HEN.out, List.take_length] at this)
        clear HAL
        go_wp2
        go_ret
        exact ⟨by rw [HR.out]; try rfl, HBB.out⟩
  · have HR := Lib.hid (show decide (xs = ys) = false from decide_eq_false (fun e => hlen (by rw [e])))
    have hne : ((xs.length : Int) != (ys.length : Int)) = true := by simp; omega
    have hne2 : (xs.length == ys.length) = false := beq_eq_false_iff_ne.2 hlen
    clear hA hB hlen
    go_enter Try.func24, Try.ntmps24
    go_wp2
    go_ret
    exact ⟨by rw [HR.out]; try rfl, Below.refl _ _⟩
/-- A slice of one value that has just been made. -/
theorem valu_one {w : World} {b : Nat} {z0 : Bool} {z1 : Int} {A2 : Option Addr} {c2 : Nat} {x2 : List Int} (hb : b < w.heap.size) (h0 : w.cell? ⟨b, 0, none⟩ = some (.bool z0)) (h1 : w.cell? ⟨b, 1, none⟩ = some (.int .i64 z1)) (h2 : w.cell? ⟨b, 2, none⟩ = some (.slice A2 x2.length c2)) (h : ArgS Rep.int w A2 x2.length c2 x2) :
    ArgS valu w (some ⟨b, 0, none⟩) 1 1 [(z0, z1, x2)] := by
  obtain ⟨q, fp, h⟩ := h
  refine ⟨false, _, _, 1, rfl, by simp, Or.inr ⟨b, 0, [(fp, [.bool z0, .int .i64 z1, .slice A2 x2.length c2], (z0, z1, x2))], rfl, rfl, by simp, rfl, hb, fun e he => ?_, ?_, fun hq => by cases hq⟩⟩
  · rw [List.mem_singleton.1 he]
    exact valu.loose (valu_close z0 z1 h)
  · refine fun _ => ⟨b, 0, rfl, ⟨Nat.le_refl _, Nat.lt_succ_self _, by omega⟩, fun j v hj => ?_⟩
    match j, hj with
    | 0, hj => injection hj with hj; subst hj; simpa using h0
    | 1, hj => injection hj with hj; subst hj; simpa using h1
    | 2, hj => injection hj with hj; subst hj; simpa using h2
    | j + 3, hj => simp [cells] at hj
set_option maxHeartbeats 4000000 in
set_option maxRecDepth 100000 in
theorem equalOutcome0 (z0 : Int) (z1 : Bool) (z2 : Int) (A3 : Option Addr) (c3 : Nat) (x3 : List Int) (z4 z5 : Int) (u0 : Int) (u1 : Bool) (u2 : Int) (B3 : Option Addr) (d3 : Nat) (y3 : List Int) (u4 u5 : Int) (w : World) (h3 : ArgS Rep.int w A3 x3.length c3 x3) (k3 : ArgS Rep.int w B3 y3.length d3 y3) (hlx : szOutcomeU (z0, (z1, z2, x3), z4, z5) ≤ 90000000) (hly : szOutcomeU (u0, (u1, u2, y3), u4, u5) ≤ 90000000) :
    Calls Try.prog 14 #[.agg #[.int .i64 z0, .bool z1, .int .i64 z2, .slice A3 x3.length c3, .int .i64 z4, .int .i64 z5], .agg #[.int .i64 u0, .bool u1, .int .i64 u2, .slice B3 y3.length d3, .int .i64 u4, .int .i64 u5]] w fun e w' => e = .returned (.bool (decide (((z0, (z1, z2, x3), z4, z5) : OutcomeT) = (u0, (u1, u2, y3), u4, u5)))) ∧ Below w.heap.size w w' := by
  simp only [szOutcomeU, szValueU] at hlx hly
  have SM := Lib.hid (fun (A B : Option Addr) (W : World) (hA : ArgS valu W A 1 1 [(z1, z2, x3)]) (hB : ArgS valu W B 1 1 [(u1, u2, y3)]) => same A B 1 1 [(z1, z2, x3)] [(u1, u2, y3)] W hA hB (by rw [szs_cons, show szs szValueU [] = 0 from rfl]; simp only [szValueU, List.length_cons, List.length_nil]; omega) (by rw [szs_cons, show szs szValueU [] = 0 from rfl]; simp only [szValueU, List.length_cons, List.length_nil]; omega))
  have ON := Lib.hid (fun (W : World) (b : Nat) (hw : Below w.heap.size w W) (hb : b < W.heap.size) (h0 : W.cell? ⟨b, 0, none⟩ = some (.bool z1)) (h1 : W.cell? ⟨b, 1, none⟩ = some (.int .i64 z2)) (h2 : W.cell? ⟨b, 2, none⟩ = some (.slice A3 x3.length c3)) => valu_one hb h0 h1 h2 (h3.below hw))
  have OM := Lib.hid (fun (W : World) (b : Nat) (hw : Below w.heap.size w W) (hb : b < W.heap.size) (h0 : W.cell? ⟨b, 0, none⟩ = some (.bool u1)) (h1 : W.cell? ⟨b, 1, none⟩ = some (.int .i64 u2)) (h2 : W.cell? ⟨b, 2, none⟩ = some (.slice B3 y3.length d3)) => valu_one hb h0 h1 h2 (k3.below hw))
  obtain ⟨R, hR⟩ : ∃ R : Bool, R = decide (((z0, (z1, z2, x3), z4, z5) : OutcomeT) = (u0, (u1, u2, y3), u4, u5)) := ⟨_, rfl⟩
  rw [← hR]
  have HO := Lib.hid hR
  obtain ⟨t0, ht0⟩ : ∃ t : Bool, t = decide ([((z1, z2, x3) : ValueT)] = [(u1, u2, y3)]) := ⟨_, rfl⟩
  rw [← ht0] at SM
  have HT := Lib.hid ht0
  have BB := Lib.hid (((Below.refl w.heap.size w).alloc (Nat.le_refl _) (Obj.cells #[Value.int .i64 z0, Value.bool z1, Value.int .i64 z2, Value.slice A3 x3.length c3, Value.int .i64 z4, Value.int .i64 z5] 37)).alloc (by simp) (Obj.cells #[Value.int .i64 u0, Value.bool u1, Value.int .i64 u2, Value.slice B3 y3.length d3, Value.int .i64 u4, Value.int .i64 u5] 37))
  clear hR ht0 hlx hly h3 k3
  by_cases g0 : z0 = u0
  · subst g0
    by_cases g1 : z4 = u4
    · subst g1
      by_cases g2 : z5 = u5
      · subst g2
        have HF := Lib.hid (show t0 = R by rw [HO.out, HT.out]; exact decide_eq_decide.2 (by simp))
        have BB3 := Lib.hid ((BB.out.alloc (by simp; omega) (Obj.cells #[Value.bool z1, Value.int .i64 z2, Value.slice A3 x3.length c3] 27)).alloc (by simp; omega) (Obj.cells #[Value.bool u1, Value.int .i64 u2, Value.slice B3 y3.length d3] 27))
        have L3 := (Lvar.new ((w.alloc (Obj.cells #[Value.int .i64 z0, Value.bool z1, Value.int .i64 z2, Value.slice A3 x3.length c3, Value.int .i64 z4, Value.int .i64 z5] 37)).alloc (Obj.cells #[Value.int .i64 z0, Value.bool u1, Value.int .i64 u2, Value.slice B3 y3.length d3, Value.int .i64 z4, Value.int .i64 z5] 37)) #[Value.bool z1, Value.int .i64 z2, Value.slice A3 x3.length c3] 27).alloc (Obj.cells #[Value.bool u1, Value.int .i64 u2, Value.slice B3 y3.length d3] 27)
        have L4 := Lvar.new (((w.alloc (Obj.cells #[Value.int .i64 z0, Value.bool z1, Value.int .i64 z2, Value.slice A3 x3.length c3, Value.int .i64 z4, Value.int .i64 z5] 37)).alloc (Obj.cells #[Value.int .i64 z0, Value.bool u1, Value.int .i64 u2, Value.slice B3 y3.length d3, Value.int .i64 z4, Value.int .i64 z5] 37)).alloc (Obj.cells #[Value.bool z1, Value.int .i64 z2, Value.slice A3 x3.length c3] 27)) #[Value.bool u1, Value.int .i64 u2, Value.slice B3 y3.length d3] 27
        simp only [World.size_alloc] at L3 L4
        have N3 := ON.out ((((w.alloc (Obj.cells #[Value.int .i64 z0, Value.bool z1, Value.int .i64 z2, Value.slice A3 x3.length c3, Value.int .i64 z4, Value.int .i64 z5] 37)).alloc (Obj.cells #[Value.int .i64 z0, Value.bool u1, Value.int .i64 u2, Value.slice B3 y3.length d3, Value.int .i64 z4, Value.int .i64 z5] 37)).alloc (Obj.cells #[Value.bool z1, Value.int .i64 z2, Value.slice A3 x3.length c3] 27)).alloc (Obj.cells #[Value.bool u1, Value.int .i64 u2, Value.slice B3 y3.length d3] 27)) (w.heap.size + 1 + 1) BB3.out L3.lt (L3.cell 0 _ rfl) (L3.cell 1 _ rfl) (L3.cell 2 _ rfl)
        have N4 := OM.out ((((w.alloc (Obj.cells #[Value.int .i64 z0, Value.bool z1, Value.int .i64 z2, Value.slice A3 x3.length c3, Value.int .i64 z4, Value.int .i64 z5] 37)).alloc (Obj.cells #[Value.int .i64 z0, Value.bool u1, Value.int .i64 u2, Value.slice B3 y3.length d3, Value.int .i64 z4, Value.int .i64 z5] 37)).alloc (Obj.cells #[Value.bool z1, Value.int .i64 z2, Value.slice A3 x3.length c3] 27)).alloc (Obj.cells #[Value.bool u1, Value.int .i64 u2, Value.slice B3 y3.length d3] 27)) (w.heap.size + 1 + 1 + 1) BB3.out L4.lt (L4.cell 0 _ rfl) (L4.cell 1 _ rfl) (L4.cell 2 _ rfl)
        have SM := Lib.hid (SM.out _ _ _ N3 N4)
        clear L3 L4 N3 N4 ON OM
        go_enter Try.func14, Try.ntmps14
        go_wp2_with fail
        refine (Calls.mono SM.out) ?_
        rintro e w9 ⟨rfl, b9⟩
        have B9 := Lib.hid (BB3.out.trans (b9.mono BB3.out.size))
        clear b9
        go_wp2
        go_ret
        exact ⟨ArithI.ret_bool HF.out, B9.out⟩
      · have HF := Lib.hid (show R = false by rw [HO.out]; exact decide_eq_false (fun e => g2 (congrArg (fun p : OutcomeT => p.2.2.2) e)))
        have hs2 : (z5 == u5) = false := beq_eq_false_iff_ne.2 g2
        clear g2 SM ON OM
        go_enter Try.func14, Try.ntmps14
        go_wp2
        go_ret
        exact ⟨ArithI.ret_bool HF.out.symm, BB.out⟩
    · have HF := Lib.hid (show R = false by rw [HO.out]; exact decide_eq_false (fun e => g1 (congrArg (fun p : OutcomeT => p.2.2.1) e)))
      have hs1 : (z4 == u4) = false := beq_eq_false_iff_ne.2 g1
      clear g1 SM ON OM
      go_enter Try.func14, Try.ntmps14
      go_wp2
      go_ret
      exact ⟨ArithI.ret_bool HF.out.symm, BB.out⟩
  · have HF := Lib.hid (show R = false by rw [HO.out]; exact decide_eq_false (fun e => g0 (congrArg (fun p : OutcomeT => p.1) e)))
    have hs0 : (z0 == u0) = false := beq_eq_false_iff_ne.2 g0
    clear g0 SM ON OM
    go_enter Try.func14, Try.ntmps14
    go_wp2
    go_ret
    exact ⟨ArithI.ret_bool HF.out.symm, BB.out⟩
theorem arg_valu {w : World} {A2 : Option Addr} {c2 : Nat} {z0 : Bool} {z1 : Int} {x2 : List Int} (h : ArgR valu w [.bool z0, .int .i64 z1, .slice A2 x2.length c2] (z0, z1, x2)) : ArgS Rep.int w A2 x2.length c2 x2 := by
  obtain ⟨q, fp, h⟩ := h
  obtain ⟨f2, _, h2⟩ := valu_parts h
  exact ⟨q, f2, h2⟩
theorem arg_outc {w : World} {A3 : Option Addr} {c3 : Nat} {z0 z2 z4 z5 : Int} {z1 : Bool} {x3 : List Int} (h : ArgR outc w [.int .i64 z0, .bool z1, .int .i64 z2, .slice A3 x3.length c3, .int .i64 z4, .int .i64 z5] (z0, (z1, z2, x3), z4, z5)) : ArgS Rep.int w A3 x3.length c3 x3 := by
  obtain ⟨q, fp, h⟩ := h
  obtain ⟨f2, _, h2⟩ := outc_parts h
  exact ⟨q, f2, h2⟩
theorem validA {A2 : Option Addr} {c2 : Nat} {z0 : Bool} {z1 : Int} {x2 : List Int} {w : World} (h : ArgR valu w [.bool z0, .int .i64 z1, .slice A2 x2.length c2] (z0, z1, x2)) (hl : szValueU (z0, z1, x2) ≤ 100000000) :
    Calls Try.prog 7 #[.agg #[.bool z0, .int .i64 z1, .slice A2 x2.length c2]] w fun e w' => e = .returned (.bool (valV z0 z1 x2)) ∧ Below w.heap.size w w' :=
  valid z0 z1 A2 c2 x2 w (arg_valu h) (by simp only [szValueU] at hl; omega)
theorem sizeA {A2 : Option Addr} {c2 : Nat} {z0 : Bool} {z1 : Int} {x2 : List Int} {w : World} (_h : ArgR valu w [.bool z0, .int .i64 z1, .slice A2 x2.length c2] (z0, z1, x2)) :
    Calls Try.prog 11 #[.agg #[.bool z0, .int .i64 z1, .slice A2 x2.length c2]] w fun e w' => e = .returned (.int .i64 (sizeV z0 z1 x2)) ∧ Below w.heap.size w w' :=
  size z0 z1 A2 c2 x2.length x2 rfl w
theorem equalOutcome {z0 z2 z4 z5 u0 u2 u4 u5 : Int} {z1 u1 : Bool} {A3 B3 : Option Addr} {c3 d3 : Nat} {x3 y3 : List Int} {w : World} (h : ArgR outc w [.int .i64 z0, .bool z1, .int .i64 z2, .slice A3 x3.length c3, .int .i64 z4, .int .i64 z5] (z0, (z1, z2, x3), z4, z5)) (k : ArgR outc w [.int .i64 u0, .bool u1, .int .i64 u2, .slice B3 y3.length d3, .int .i64 u4, .int .i64 u5] (u0, (u1, u2, y3), u4, u5)) (hlx : szOutcomeU (z0, (z1, z2, x3), z4, z5) ≤ 90000000) (hly : szOutcomeU (u0, (u1, u2, y3), u4, u5) ≤ 90000000) :
    Calls Try.prog 14 #[.agg #[.int .i64 z0, .bool z1, .int .i64 z2, .slice A3 x3.length c3, .int .i64 z4, .int .i64 z5], .agg #[.int .i64 u0, .bool u1, .int .i64 u2, .slice B3 y3.length d3, .int .i64 u4, .int .i64 u5]] w fun e w' => e = .returned (.bool (decide (((z0, (z1, z2, x3), z4, z5) : OutcomeT) = (u0, (u1, u2, y3), u4, u5)))) ∧ Below w.heap.size w w' :=
  equalOutcome0 z0 z1 z2 A3 c3 x3 z4 z5 u0 u1 u2 B3 d3 y3 u4 u5 w (arg_outc h) (arg_outc k) (by omega) (by omega)
end ValS
end Go.Proofs.Ytgpjgjjadhmkhaa
