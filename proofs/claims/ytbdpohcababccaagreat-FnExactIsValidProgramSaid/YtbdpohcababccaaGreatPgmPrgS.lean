import Derived.Test.YtbdpohcababccaaGreatPgmPrg
import Derived.Deep.RegionHeld3
import Derived.BigQuiet
/-
  Programs: validity (made by tools/s10p.py): of the model.
-/
namespace Go.Proofs.YtbdpohcababccaaGreat
open Go.RowKit
namespace ProgS
open RowK Mem ProgM ProgI
set_option maxHeartbeats 4000000 in
set_option maxRecDepth 100000 in
theorem names5 (A : Option Addr) (c : Nat) (ss : List ByteArray) (w : World) (hA : ArgS Rep.str w A ss.length c ss) (hl : ss.length + szs szStr ss ≤ 9000000) :
    Calls Tryz.prog 79 #[.slice A ss.length c] w fun e w' => e = .returned (.bool (ss.all NameM.validName && NameS.dist ss)) ∧ Below w.heap.size w w' := by
  have hcap := (ArgS.cap hA).2
  have HA := Lib.hid hA
  have HL := Lib.hid hl
  have DI := Lib.hid (fun W (h : Below w.heap.size w W) => by
    obtain ⟨q, fp, h9⟩ := hA.below h
    exact NameS.specDistinct A c ss W (strs_open h9).1 (by omega) hcap)
  have hxl : ss.length ≤ 9000000 := by omega
  obtain ⟨R, hR⟩ : ∃ R, R = (ss.all NameM.validName && NameS.dist ss) := ⟨_, rfl⟩
  rw [← hR]
  have HRR := Lib.hid hR
  clear hA hl hR
  go_enter Tryz.func79, Tryz.ntmps79
  go_wp2
  go_loopw [3] (fun i wr => ∃ k : Nat, k ≤ ss.length ∧ i = .int .i64 k ∧ Hid (((ss.drop k).all NameM.validName && NameS.dist ss) = R) ∧ Below w.heap.size w wr) (fun i _ => ss.length - (intOf i).toNat)
  case atStart => exact ⟨0, Nat.zero_le _, rfl, Lib.hid HRR.out.symm, Below.refl _ _⟩
  case round =>
    obtain ⟨k, hk, rfl, hall, hb⟩ := hrel
    have HAL := Lib.hid hall.out
    have HB := Lib.hid hb
    clear hall hb
    by_cases hlt : k < ss.length
    · obtain ⟨b1, o1, rfl, hbb1, g0⟩ := str_at10 (HA.out.below HB.out) hlt
      have hsz : ss[k].size ≤ 9000000 := by
        have := HL.out
        exact str_le hlt (by omega)
      have HST := Lib.hid (show (ss.drop k).all NameM.validName = (NameM.validName ss[k] && (ss.drop (k + 1)).all NameM.validName) by rw [List.drop_eq_getElem_cons hlt]; rfl)
      generalize ss[k] = x at *
      have hi0 : (0 : Int) ≤ (k : Int) := by omega
      have hi1 : (k : Int) < (ss.length : Int) := by omega
      have EV := Lib.hid (NameS.specValid x wr (by unfold maxLen; omega))
      clear hsz
      generalize NameM.validName x = t at *
      cases t with
      | false =>
        have HF := Lib.hid (show R = false by rw [← HAL.out, HST.out]; rfl)
        go_wp2_with fail
        refine (Calls.mono EV.out) ?_
        rintro e w1 ⟨rfl, b1⟩
        have B1 := Lib.hid (below_step HB.out b1)
        clear b1
        go_wp2
        go_ret
        exact ⟨ArgI.ret_b HF.out.symm, B1.out⟩
      | true =>
        have HF := Lib.hid (show ((ss.drop (k + 1)).all NameM.validName && NameS.dist ss) = R by rw [← HAL.out, HST.out]; rfl)
        go_wp2_with fail
        refine (Calls.mono EV.out) ?_
        rintro e w1 ⟨rfl, b1⟩
        have B1 := Lib.hid (below_step HB.out b1)
        clear b1
        go_wp2
        go_roundw
        case rel => exact ⟨k + 1, by omega, by go_num, HF, B1.out⟩
        case measure => simp [intOf]; omega
    · obtain rfl : k = ss.length := by omega
      have HF := Lib.hid (show R = NameS.dist ss by rw [← HAL.out, List.drop_length]; rfl)
      have DI1 := Lib.hid (DI.out wr HB.out)
      go_wp2_with fail
      refine (Calls.mono DI1.out) ?_
      rintro e w1 ⟨rfl, b1⟩
      have B1 := Lib.hid (below_step HB.out b1)
      clear b1
      go_wp2
      go_ret
      exact ⟨ArgI.ret_b HF.out.symm, B1.out⟩
set_option maxHeartbeats 4000000 in
set_option maxRecDepth 100000 in
theorem in13 (n : Int) (w : World) :
    Calls Tryz.prog 47 #[.int .i64 n, .int .i64 1, .int .i64 3] w fun e w' => e = .returned (.bool (decide (1 ≤ n) && decide (n ≤ 3))) ∧ w = w' := by
  go_enter Tryz.func47, Tryz.ntmps47
  go_wp2
  all_goals
    go_ret
    exact ⟨ArithI.ret_bool (by simp_all; try omega), rfl⟩
set_option maxHeartbeats 8000000 in
set_option maxRecDepth 100000 in
theorem functions (A : Option Addr) (c : Nat) (fs : List FunctionT) (w : World) (hA : ArgS Mem.fn w A fs.length c fs) (hl : fs.length + szs szFunctionU fs ≤ 9000000) :
    Calls Tryz.prog 32 #[.slice A fs.length c] w fun e w' => e = .returned (.bool (fs.all fnV && ((decide (1 ≤ (fs.length : Int)) && decide ((fs.length : Int) ≤ 3)) && NameS.dist (fs.map (·.1))))) ∧ Below w.heap.size w w' := by
  obtain ⟨i0, hi, hz0, hz1, hz2⟩ := info_parts strInfoU
  have HA := Lib.hid hA
  have HL := Lib.hid hl
  have hxl : fs.length ≤ 9000000 := by omega
  obtain ⟨R, hR⟩ : ∃ R, R = (fs.all fnV && ((decide (1 ≤ (fs.length : Int)) && decide ((fs.length : Int) ≤ 3)) && NameS.dist (fs.map (·.1)))) := ⟨_, rfl⟩
  rw [← hR]
  have HRR := Lib.hid hR
  have N0 := Lib.hid (show Names10 w (.slice (some ⟨w.heap.size, 0, none⟩) 0 0) [] (w.alloc (Obj.cells #[] 9)) from ⟨own_none (heap_alloc_new _ _) (Nat.le_refl _), (Below.refl _ _).alloc (Nat.le_refl _) _⟩)
  clear hA hl hR
  go_enter Tryz.func32, Tryz.ntmps32
  go_wp2
  go_loopw [3, 4] (fun v i wr => ∃ (k : Nat) (done : List ByteArray), k ≤ fs.length ∧ i = .int .i64 k ∧ Hid (done = (fs.take k).map (·.1)) ∧ Hid (((fs.drop k).all fnV && ((decide (1 ≤ (fs.length : Int)) && decide ((fs.length : Int) ≤ 3)) && NameS.dist (fs.map (·.1)))) = R) ∧ Names10 w v done wr) (fun _ i _ => fs.length - (intOf i).toNat)
  case atStart => exact ⟨0, [], Nat.zero_le _, rfl, Lib.hid rfl, Lib.hid HRR.out.symm, N0.out⟩
  case round =>
    clear N0
    obtain ⟨k, done, hk, rfl, hdone, hal, hN⟩ := hrel
    have HD := Lib.hid hdone.out
    have HAL := Lib.hid hal.out
    have HN := Lib.hid hN
    have hdl : done.length ≤ 10000000 := by rw [HD.out, List.length_map, List.length_take]; omega
    clear hN hdone hal
    have BW := Lib.hid HN.out.2
    by_cases hlt : k < fs.length
    · obtain ⟨b1, o1, G1, e1, G3, e3, rfl, hbb1, g0, g1, g2, g3, r1, r3⟩ := (HA.out.below BW.out).fn_at hlt
      have hsz : szFunctionU fs[k] ≤ 9000000 := by
        have := HL.out
        have := szs_mem (sz := szFunctionU) (List.getElem_mem hlt)
        omega
      have HSM := Lib.hid (show (fs.take (k + 1)).map (·.1) = (fs.take k).map (·.1) ++ [fs[k].1] by rw [take_snoc hlt, List.map_append]; rfl)
      have HST := Lib.hid (show (fs.drop k).all fnV = (fnV fs[k] && (fs.drop (k + 1)).all fnV) by rw [List.drop_eq_getElem_cons hlt]; rfl)
      generalize fs[k] = x at *
      obtain ⟨y0, y1, y2, y3⟩ := x
      simp only at g0 g1 g2 g3 r1 r3
      simp only [szFunctionU] at hsz
      have hi0 : (0 : Int) ≤ (k : Int) := by omega
      have hi1 : (k : Int) < (fs.length : Int) := by omega
      obtain ⟨T, hT⟩ : ∃ T, T = ((fs.drop (k + 1)).all fnV && ((decide (1 ≤ (fs.length : Int)) && decide ((fs.length : Int) ≤ 3)) && NameS.dist (fs.map (·.1)))) := ⟨_, rfl⟩
      have HTT := Lib.hid hT
      have HST := Lib.hid (show R = ((ArgM.intName y0 && (paramsV y1 && (decide (y3.length ≤ 2) && y3.all fun l => LinM.vldB l.1 l.2 (y1.length : Int)))) && T) by
        rw [← HAL.out, HST.out, hT, Bool.and_assoc]; rfl)
      clear hT
      have HDD := Lib.hid (show Below wr.heap.size wr (wr.alloc (Obj.cells #[Value.string y0, Value.slice G1 y1.length e1, Value.bool y2, Value.slice G3 y3.length e3] 41)) from (Below.refl _ _).alloc (Nat.le_refl _) _)
      have XV := Lib.hid (Lvar.new wr #[Value.string y0, Value.slice G1 y1.length e1, Value.bool y2, Value.slice G3 y3.length e3] 41)
      have EN := Lib.hid (fun W => intName y0 (by omega) W)
      have E5 := Lib.hid (fun W (h : Below wr.heap.size wr W) => names5 G1 e1 y1 W (r1.below h) (by omega))
      have R3 := Lib.hid r3
      have hy1 : y1.length ≤ 9000000 := by omega
      have hy3 : y3.length ≤ 9000000 := by omega
      have HY3 := Lib.hid (show y3.length + szs szLin y3 ≤ 9000000 by omega)
      have HPV := Lib.hid (show paramsV y1 = (decide (y1.length ≤ 2) && (y1.all NameM.validName && NameS.dist y1)) from by unfold paramsV; rw [Bool.and_comm (NameS.dist y1)])
      rw [HPV.out] at HST
      clear r1 r3 hsz HPV
      generalize ArgM.intName y0 = t0 at *
      generalize (y1.all NameM.validName && NameS.dist y1) = t1 at *
      go_upto_region 6 with fail
      generalize wr.alloc (Obj.cells #[Value.string y0, Value.slice G1 y1.length e1, Value.bool y2, Value.slice G3 y3.length e3] 41) = w2 at *
      have x0 : w2.cell? ⟨wr.heap.size, 0, none⟩ = some (.string y0) := XV.out.cell 0 _ rfl
      have x1 : w2.cell? ⟨wr.heap.size, 1, none⟩ = some (.slice G1 y1.length e1) := XV.out.cell 1 _ rfl
      cases t0 with
      | false =>
        have HF := Lib.hid (show R = false by rw [HST.out]; rfl)
        go_wp2_with fail
        refine (Calls.mono (EN.out _)) ?_
        rintro e w3 ⟨rfl, b3⟩
        have B3 := Lib.hid (below_step BW.out (below_step HDD.out b3))
        clear b3
        go_wp2
        go_ret
        exact ⟨ArgI.ret_b HF.out.symm, B3.out⟩
      | true =>
        go_wp2_with fail
        refine (Calls.mono (EN.out _)) ?_
        rintro e w3 ⟨rfl, b3⟩
        have D3 := Lib.hid (below_step HDD.out b3)
        have X3 := Lib.hid (XV.out.below b3)
        have z1 : w3.cell? ⟨wr.heap.size, 1, none⟩ = some (.slice G1 y1.length e1) := X3.out.cell 1 _ rfl
        clear b3 x0 x1 XV
        by_cases n1 : y1.length ≤ 2
        · have hq1 : decide ((y1.length : Int) > 2) = false := decide_eq_false (by omega)
          cases t1 with
          | false =>
            have HF := Lib.hid (show R = false by rw [HST.out]; simp)
            go_wp2_with fail
            refine (Calls.mono (E5.out _ D3.out)) ?_
            rintro e w4 ⟨rfl, b4⟩
            have B4 := Lib.hid (below_step BW.out (below_step D3.out b4))
            clear b4
            go_wp2
            go_ret
            exact ⟨ArgI.ret_b HF.out.symm, B4.out⟩
          | true =>
            go_wp2_with fail
            refine (Calls.mono (E5.out _ D3.out)) ?_
            rintro e w4 ⟨rfl, b4⟩
            have D4 := Lib.hid (below_step D3.out b4)
            have X4 := Lib.hid (X3.out.below b4)
            have z3 : w4.cell? ⟨wr.heap.size, 3, none⟩ = some (.slice G3 y3.length e3) := X4.out.cell 3 _ rfl
            clear b4 z1 X3
            by_cases n3 : y3.length ≤ 2
            · have hq3 : decide ((y3.length : Int) > 2) = false := decide_eq_false (by omega)
              have HST := Lib.hid (show R = ((y3.all fun l => LinM.vldB l.1 l.2 (y1.length : Int)) && T) by rw [HST.out, decide_eq_true n1, decide_eq_true n3]; rfl)
              have HWO := Lib.hid HN.out
              obtain ⟨wo, hwo⟩ : ∃ u, u = wr := ⟨_, rfl⟩
              subst hwo
              go_wp2
              go_loopw [6] (fun i wr => ∃ m : Nat, m ≤ y3.length ∧ i = .int .i64 m ∧ Hid ((((y3.drop m).all fun l => LinM.vldB l.1 l.2 (y1.length : Int)) && T) = R) ∧ Below w4.heap.size w4 wr) (fun i _ => y3.length - (intOf i).toNat)
              case atStart => exact ⟨0, Nat.zero_le _, rfl, Lib.hid HST.out.symm, Below.refl _ _⟩
              case round =>
                clear z3 g0 g1 g2 g3
                obtain ⟨m, hm, rfl, hall, hb⟩ := hrel
                have HAM := Lib.hid hall.out
                have HBM := Lib.hid hb
                clear hall hb
                have DM := Lib.hid (below_step D4.out HBM.out)
                have XM := Lib.hid (X4.out.below HBM.out)
                have zm3 : wr.cell? ⟨wo.heap.size, 3, none⟩ = some (.slice G3 y3.length e3) := XM.out.cell 3 _ rfl
                by_cases hmt : m < y3.length
                · obtain ⟨q9, f9, h9⟩ := R3.out.below DM.out
                  obtain ⟨b5, o5, P1, f1, lo, hi5, rfl, hbb5, i0', i1', _, r5⟩ := lins_at h9 hmt
                  have hsz : y3[m].2.length ≤ 9000000 := by
                    have := HY3.out
                    have := szs_mem (sz := szLin) (List.getElem_mem hmt)
                    have e : szLin y3[m] = y3[m].2.length := rfl
                    omega
                  have HSL := Lib.hid (show ((y3.drop m).all fun l => LinM.vldB l.1 l.2 (y1.length : Int)) = (LinM.vldB y3[m].1 y3[m].2 (y1.length : Int) && (y3.drop (m + 1)).all fun l => LinM.vldB l.1 l.2 (y1.length : Int)) by rw [List.drop_eq_getElem_cons hmt]; rfl)
                  generalize y3[m] = x at *
                  obtain ⟨z, zs⟩ := x
                  simp only at i0' i1' r5 hsz
                  have hj0 : (0 : Int) ≤ (m : Int) := by omega
                  have hj1 : (m : Int) < (y3.length : Int) := by omega
                  have KS := Lib.hid (fun W (h : Below wr.heap.size wr W) => (show W.cell? ⟨wo.heap.size, 1, none⟩ = some (Value.slice G1 y1.length e1) ∧ W.cell? ⟨wo.heap.size, 3, none⟩ = some (Value.slice (some ⟨b5, o5, none⟩) y3.length e3) ∧ W.cell? ⟨b5, o5 + m * 2, none⟩ = some (Value.int .i64 z) ∧ W.cell? ⟨b5, o5 + m * 2 + 1, none⟩ = some (Value.slice P1 zs.length f1) from
                    ⟨(XM.out.below h).cell 1 _ rfl, (XM.out.below h).cell 3 _ rfl, (h.cell (p := ⟨b5, o5 + m * 2, none⟩) hbb5).trans i0', (h.cell (p := ⟨b5, o5 + m * 2 + 1, none⟩) hbb5).trans i1'⟩))
                  have F2 := Lib.hid (Below.refl wr.heap.size wr).drew
                  have F2r := Lib.hid (Below.refl wr.heap.size wr)
                  have VL := Lib.hid (fun W (h : Below wr.heap.size wr W) => LinS.valid lo hi5 z P1 f1 zs (y1.length : Int) W (r5.below h) (by omega))
                  clear r5 hsz h9
                  generalize LinM.vldB z zs (y1.length : Int) = ta at *
                  cases ta
                  case false =>
                    have HF := Lib.hid (show R = false by rw [← HAM.out, HSL.out]; rfl)
                    go_wp2_with fail
                    go_region_held3 (fun w' => w'.cell? ⟨wo.heap.size, 1, none⟩ = some (Value.slice G1 y1.length e1) ∧ w'.cell? ⟨wo.heap.size, 3, none⟩ = some (Value.slice (some ⟨b5, o5, none⟩) y3.length e3) ∧ w'.cell? ⟨b5, o5 + m * 2, none⟩ = some (Value.int .i64 z) ∧ w'.cell? ⟨b5, o5 + m * 2 + 1, none⟩ = some (Value.slice P1 zs.length f1))
                      (first | with_reducible exact KS.out _ F4.out | with_reducible exact KS.out _ F2.out | with_reducible exact KS.out _ F2r.out | go_keep)
                      (first | (go_at_call 80; (with_reducible refine (Calls.mono (VL.out _ (by first | exact F2.out | exact F2r.out))) ?_); rintro e wz ⟨rfl, b4⟩; (have F4 := Lib.hid (show Below wr.heap.size wr wz from by first | exact below_step F2.out b4 | exact b4)); clear b4))
                    all_goals
                      have B7 := Lib.hid (show Below w.heap.size w _ from below_step BW.out (below_step DM.out F4.out))
                      go_wp2
                      go_ret
                      exact ⟨ArgI.ret_b HF.out.symm, by first | exact B7.out | exact B7.out.drew⟩
                  case true =>
                    have HF := Lib.hid (show (((y3.drop (m + 1)).all fun l => LinM.vldB l.1 l.2 (y1.length : Int)) && T) = R by rw [← HAM.out, HSL.out]; rfl)
                    go_wp2_with fail
                    go_region_held3 (fun w' => w'.cell? ⟨wo.heap.size, 1, none⟩ = some (Value.slice G1 y1.length e1) ∧ w'.cell? ⟨wo.heap.size, 3, none⟩ = some (Value.slice (some ⟨b5, o5, none⟩) y3.length e3) ∧ w'.cell? ⟨b5, o5 + m * 2, none⟩ = some (Value.int .i64 z) ∧ w'.cell? ⟨b5, o5 + m * 2 + 1, none⟩ = some (Value.slice P1 zs.length f1))
                      (first | with_reducible exact KS.out _ F4.out | with_reducible exact KS.out _ F2.out | with_reducible exact KS.out _ F2r.out | go_keep)
                      (first | (go_at_call 80; (with_reducible refine (Calls.mono (VL.out _ (by first | exact F2.out | exact F2r.out))) ?_); rintro e wz ⟨rfl, b4⟩; (have F4 := Lib.hid (show Below wr.heap.size wr wz from by first | exact below_step F2.out b4 | exact b4)); clear b4))
                    all_goals
                      have B7 := Lib.hid (show Below w4.heap.size w4 _ from below_step HBM.out F4.out)
                      go_wp2
                      go_roundw
                      case rel => exact ⟨m + 1, by omega, by go_num, HF, by first | exact B7.out | exact B7.out.drew⟩
                      case measure => simp [intOf]; omega
                · obtain rfl : m = y3.length := by omega
                  have HRT := Lib.hid (show T = R by rw [← HAM.out, List.drop_length]; rfl)
                  have xm0 : wr.cell? ⟨wo.heap.size, 0, none⟩ = some (.string y0) := XM.out.cell 0 _ rfl
                  have HF := Lib.hid (show done ++ [y0] = (fs.take (k + 1)).map (·.1) by rw [HSM.out, HD.out])
                  have hown := own_below HWO.out.1 DM.out
                  have hsw := DM.out.size
                  have hsw2 := HWO.out.2.size
                  have RN := Lib.hid (show Row 0 (wr.alloc (Obj.cells #[Value.string y0] 9)).heap.size (wr.alloc (Obj.cells #[Value.string y0] 9)) (some ⟨wr.heap.size, 0, none⟩) [.string y0] from by have h9 := row_new (heap_alloc_new wr (Obj.cells #[Value.string y0] 9)); simpa using h9)
                  go_wp2_with (at_builtin; (refine wpList_append_rowW rfl _ _ _ rfl 9 i0 (.string ByteArray.empty) 1 16 w.heap.size Tryz.underlying30 hi hz0 hz1 hz2 rfl (by decide) _ done.length (done.map Value.string) rfl (hown.alloc _) _ 1 _ [.string y0] rfl rfl RN.out (by simp [Value.oneCell']) (by unfold maxLen; omega) (by omega) (by simp; omega) ?_); intro v5 w5 hown5 hgrow hwh)
                  have BB : Below w.heap.size w w5 := ((below_step HWO.out.2 DM.out).alloc (by omega) (Obj.cells #[Value.string y0] 9)).grown hgrow (by simp; omega) (fun g e => (hown.lt g e).1)
                  have NN := Lib.hid (show Names10 w v5 (done ++ [y0]) w5 from ⟨by simpa using hown5, BB⟩)
                  have HTR := Lib.hid (show ((fs.drop (k + 1)).all fnV && ((decide (1 ≤ (fs.length : Int)) && decide ((fs.length : Int) ≤ 3)) && NameS.dist (fs.map (·.1)))) = R by rw [← HTT.out, HRT.out])
                  clear hown5 hgrow hwh hown BB
                  go_wp2
                  go_roundw
                  case rel => exact ⟨k + 1, done ++ [y0], by omega, by go_num, HF, HTR, NN.out⟩
                  case measure => simp [intOf]; omega
            · have hq3 : decide ((y3.length : Int) > 2) = true := decide_eq_true (by omega)
              have HF := Lib.hid (show R = false by rw [HST.out, decide_eq_false n3]; simp)
              have B4 := Lib.hid (below_step BW.out D4.out)
              go_wp2
              go_ret
              exact ⟨ArgI.ret_b HF.out.symm, B4.out⟩
        · have hq1 : decide ((y1.length : Int) > 2) = true := decide_eq_true (by omega)
          have HF := Lib.hid (show R = false by rw [HST.out, decide_eq_false n1]; simp)
          have B3 := Lib.hid (below_step BW.out D3.out)
          go_wp2
          go_ret
          exact ⟨ArgI.ret_b HF.out.symm, B3.out⟩
    · obtain rfl : k = fs.length := by omega
      have hdd : done = fs.map (·.1) := by rw [HD.out, List.take_length]
      have HO := Lib.hid (show R = ((decide (1 ≤ (fs.length : Int)) && decide ((fs.length : Int) ≤ 3)) && NameS.dist done) by rw [← HAL.out, List.drop_length, hdd]; rfl)
      obtain ⟨N, cn, hv, oN, _⟩ := gave_own HN.out.1 HN.out.2
      injection hv with hv
      subst hv
      have hcp := (ArgS.cap oN.arg).2
      have DI := Lib.hid (NameS.specDistinct N cn done wr (own_SR oN).1 (by omega) hcp)
      have IN := Lib.hid (in13 (fs.length : Int) wr)
      clear hdd oN
      generalize (decide (1 ≤ (fs.length : Int)) && decide ((fs.length : Int) ≤ 3)) = ti at *
      generalize NameS.dist done = t1 at *
      cases ti with
      | false =>
        have HF := Lib.hid (show R = false by rw [HO.out]; rfl)
        go_wp2_with fail
        refine (Calls.mono IN.out) ?_
        rintro e w3 ⟨rfl, rfl⟩
        go_wp2
        go_ret
        exact ⟨ArgI.ret_b HF.out.symm, BW.out⟩
      | true =>
        have HF := Lib.hid (show R = t1 by rw [HO.out]; rfl)
        go_wp2_with fail
        refine (Calls.mono IN.out) ?_
        rintro e w3 ⟨rfl, rfl⟩
        go_wp2_with fail
        refine (Calls.mono DI.out) ?_
        rintro e w4 ⟨rfl, b4⟩
        have B4 := Lib.hid (below_step BW.out b4)
        clear b4
        go_wp2
        go_ret
        exact ⟨ArgI.ret_b HF.out.symm, B4.out⟩
set_option maxHeartbeats 4000000 in
set_option maxRecDepth 100000 in
theorem validProg (A B : Option Addr) (c d : Nat) (fs : List FunctionT) (rs : List RuleT) (w : World) (hA : ArgS Mem.fn w A fs.length c fs) (hB : ArgS Mem.rule w B rs.length d rs) (hl : szProgramU (fs, rs) ≤ 9000000) :
    Calls Tryz.prog 9 #[.agg #[.slice A fs.length c, .slice B rs.length d]] w fun e w' => e = .returned (.bool (progV fs rs)) ∧ Below w.heap.size w w' := by
  simp only [szProgramU] at hl
  have b0 : Below w.heap.size w (w.alloc (Obj.cells #[Value.slice A fs.length c, Value.slice B rs.length d] 27)) := (Below.refl _ _).alloc (Nat.le_refl _) _
  have V0 := Lib.hid (Lvar.new w #[Value.slice A fs.length c, Value.slice B rs.length d] 27)
  have EF := Lib.hid (functions A c fs _ (hA.below b0) (by omega))
  have B0 := Lib.hid b0
  have HA := Lib.hid hA
  have HB := Lib.hid hB
  have HL := Lib.hid hl
  have hfl : fs.length ≤ 9000000 ∧ rs.length ≤ 9000000 := by omega
  have HO := Lib.hid (show progV fs rs = ((fs.all fnV && ((decide (1 ≤ (fs.length : Int)) && decide ((fs.length : Int) ≤ 3)) && NameS.dist (fs.map (·.1)))) && (decide (rs.length ≤ 8) && rs.all (ruleV fs))) from by
    unfold progV
    have e1 : decide (1 ≤ (fs.length : Int)) = decide (fs.length ≠ 0) := by
      by_cases h : fs.length = 0
      · rw [decide_eq_false (by omega), decide_eq_false (by omega)]
      · rw [decide_eq_true (by omega), decide_eq_true h]
    have e2 : decide ((fs.length : Int) ≤ 3) = decide (fs.length ≤ 3) := by
      by_cases h : fs.length ≤ 3
      · rw [decide_eq_true (by omega), decide_eq_true h]
      · rw [decide_eq_false (by omega), decide_eq_false h]
    rw [e1, e2]
    cases fs.all fnV <;> cases decide (fs.length ≠ 0) <;> cases decide (fs.length ≤ 3) <;> cases decide (rs.length ≤ 8) <;> cases NameS.dist (fs.map (·.1)) <;> cases rs.all (ruleV fs) <;> rfl)
  generalize progV fs rs = R at *
  generalize (fs.all fnV && ((decide (1 ≤ (fs.length : Int)) && decide ((fs.length : Int) ≤ 3)) && NameS.dist (fs.map (·.1)))) = tf at *
  clear hA hB hl b0
  cases tf with
  | false =>
    have HF := Lib.hid (show R = false by rw [HO.out]; rfl)
    go_enter Tryz.func9, Tryz.ntmps9
    go_wp2_with fail
    refine (Calls.mono EF.out) ?_
    rintro e w1 ⟨rfl, b1⟩
    have B1 := Lib.hid (below_step B0.out b1)
    clear b1
    go_wp2
    go_ret
    exact ⟨ArgI.ret_b HF.out.symm, B1.out⟩
  | true =>
    go_enter Tryz.func9, Tryz.ntmps9
    go_wp2_with fail
    refine (Calls.mono EF.out) ?_
    rintro e w1 ⟨rfl, b1⟩
    have B1 := Lib.hid (below_step B0.out b1)
    have V1 := Lib.hid (V0.out.below b1)
    have p1 : w1.cell? ⟨w.heap.size, 1, none⟩ = some (.slice B rs.length d) := V1.out.cell 1 _ rfl
    clear b1 V0 B0
    by_cases n8 : rs.length ≤ 8
    · have hq8 : decide ((rs.length : Int) > 8) = false := decide_eq_false (by omega)
      have HO := Lib.hid (show R = rs.all (ruleV fs) by rw [HO.out, decide_eq_true n8]; rfl)
      go_wp2
      go_loopw [3] (fun i wr => ∃ k : Nat, k ≤ rs.length ∧ i = .int .i64 k ∧ Hid ((rs.drop k).all (ruleV fs) = R) ∧ Below w1.heap.size w1 wr) (fun i _ => rs.length - (intOf i).toNat)
      case atStart => exact ⟨0, Nat.zero_le _, rfl, Lib.hid HO.out.symm, Below.refl _ _⟩
      case round =>
        clear p1
        obtain ⟨k, hk, rfl, hall, hb⟩ := hrel
        have HAL := Lib.hid hall.out
        have HBW := Lib.hid hb
        clear hall hb
        have BW := Lib.hid (below_step B1.out HBW.out)
        have VW := Lib.hid (V1.out.below HBW.out)
        have q1 : wr.cell? ⟨w.heap.size, 1, none⟩ = some (.slice B rs.length d) := VW.out.cell 1 _ rfl
        by_cases hlt : k < rs.length
        · obtain ⟨b1, o1, E1, f1, E2, f2, E3, f3, E5, f5, rfl, hbb1, g0, g1, g2, g3, g4, g5, g6, r1, r2, r3, r5⟩ := (HB.out.below BW.out).rule_at hlt
          have hsz : szRuleU rs[k] ≤ 9000000 := by
            have := HL.out
            have := szs_mem (sz := szRuleU) (List.getElem_mem hlt)
            omega
          have HST := Lib.hid (show (rs.drop k).all (ruleV fs) = (ruleV fs rs[k] && (rs.drop (k + 1)).all (ruleV fs)) by rw [List.drop_eq_getElem_cons hlt]; rfl)
          generalize rs[k] = x at *
          obtain ⟨z0, x1, x2, x3, z4, x5, z6⟩ := x
          simp only at g0 g1 g2 g3 g4 g5 g6 r1 r2 r3 r5 hsz
          have hi0 : (0 : Int) ≤ (k : Int) := by omega
          have hi1 : (k : Int) < (rs.length : Int) := by omega
          have VR := Lib.hid (fun W (h : Below wr.heap.size wr W) => validRule A (some ⟨b1, o1, none⟩) rs.length c d fs z0 E1 f1 x1 E2 f2 x2 E3 f3 x3 z4 E5 f5 x5 z6 W (HA.out.below (below_step BW.out h)) (by have := HL.out; omega) (r1.below h) (r2.below h) (r3.below h) (r5.below h) hsz)
          have KS := Lib.hid (fun W (h : Below wr.heap.size wr W) => (show W.cell? ⟨w.heap.size, 0, none⟩ = some (Value.slice A fs.length c) ∧ W.cell? ⟨w.heap.size, 1, none⟩ = some (Value.slice (some ⟨b1, o1, none⟩) rs.length d) ∧ W.cell? ⟨b1, o1 + k * 7, none⟩ = some (Value.string z0) ∧ W.cell? ⟨b1, o1 + k * 7 + 1, none⟩ = some (Value.slice E1 x1.length f1) ∧ W.cell? ⟨b1, o1 + k * 7 + 2, none⟩ = some (Value.slice E2 x2.length f2) ∧ W.cell? ⟨b1, o1 + k * 7 + 3, none⟩ = some (Value.slice E3 x3.length f3) ∧ W.cell? ⟨b1, o1 + k * 7 + 4, none⟩ = some (Value.bool z4) ∧ W.cell? ⟨b1, o1 + k * 7 + 5, none⟩ = some (Value.slice E5 x5.length f5) ∧ W.cell? ⟨b1, o1 + k * 7 + 6, none⟩ = some (Value.string z6) from ⟨(VW.out.below h).cell 0 _ rfl, (VW.out.below h).cell 1 _ rfl, (h.cell (p := ⟨b1, o1 + k * 7, none⟩) hbb1).trans g0, (h.cell (p := ⟨b1, o1 + k * 7 + 1, none⟩) hbb1).trans g1, (h.cell (p := ⟨b1, o1 + k * 7 + 2, none⟩) hbb1).trans g2, (h.cell (p := ⟨b1, o1 + k * 7 + 3, none⟩) hbb1).trans g3, (h.cell (p := ⟨b1, o1 + k * 7 + 4, none⟩) hbb1).trans g4, (h.cell (p := ⟨b1, o1 + k * 7 + 5, none⟩) hbb1).trans g5, (h.cell (p := ⟨b1, o1 + k * 7 + 6, none⟩) hbb1).trans g6⟩))
          have D2 := Lib.hid (Below.refl wr.heap.size wr).drew
          have D2r := Lib.hid (Below.refl wr.heap.size wr)
          clear r1 r2 r3 r5 hsz
          generalize ruleV fs (z0, x1, x2, x3, z4, x5, z6) = ta at *
          cases ta
          case false =>
            have HF := Lib.hid (show R = false by rw [← HAL.out, HST.out]; rfl)
            go_wp2_with fail
            go_region_held3 (fun w' => w'.cell? ⟨w.heap.size, 0, none⟩ = some (Value.slice A fs.length c) ∧ w'.cell? ⟨w.heap.size, 1, none⟩ = some (Value.slice (some ⟨b1, o1, none⟩) rs.length d) ∧ w'.cell? ⟨b1, o1 + k * 7, none⟩ = some (Value.string z0) ∧ w'.cell? ⟨b1, o1 + k * 7 + 1, none⟩ = some (Value.slice E1 x1.length f1) ∧ w'.cell? ⟨b1, o1 + k * 7 + 2, none⟩ = some (Value.slice E2 x2.length f2) ∧ w'.cell? ⟨b1, o1 + k * 7 + 3, none⟩ = some (Value.slice E3 x3.length f3) ∧ w'.cell? ⟨b1, o1 + k * 7 + 4, none⟩ = some (Value.bool z4) ∧ w'.cell? ⟨b1, o1 + k * 7 + 5, none⟩ = some (Value.slice E5 x5.length f5) ∧ w'.cell? ⟨b1, o1 + k * 7 + 6, none⟩ = some (Value.string z6))
              (first | with_reducible exact KS.out _ D4.out | with_reducible exact KS.out _ D2.out | with_reducible exact KS.out _ D2r.out | go_keep)
              (first | (go_at_call 16; (with_reducible refine (Calls.mono (VR.out _ (by first | exact D2.out | exact D2r.out))) ?_); rintro e wz ⟨rfl, b4⟩; (have D4 := Lib.hid (show Below wr.heap.size wr wz from by first | exact below_step D2.out b4 | exact b4)); clear b4))
            all_goals
              have B7 := Lib.hid (show Below w.heap.size w _ from below_step BW.out D4.out)
              go_wp2
              go_ret
              exact ⟨ArgI.ret_b HF.out.symm, by first | exact B7.out | exact B7.out.drew⟩
          case true =>
            have HF := Lib.hid (show (rs.drop (k + 1)).all (ruleV fs) = R by rw [← HAL.out, HST.out]; rfl)
            go_wp2_with fail
            go_region_held3 (fun w' => w'.cell? ⟨w.heap.size, 0, none⟩ = some (Value.slice A fs.length c) ∧ w'.cell? ⟨w.heap.size, 1, none⟩ = some (Value.slice (some ⟨b1, o1, none⟩) rs.length d) ∧ w'.cell? ⟨b1, o1 + k * 7, none⟩ = some (Value.string z0) ∧ w'.cell? ⟨b1, o1 + k * 7 + 1, none⟩ = some (Value.slice E1 x1.length f1) ∧ w'.cell? ⟨b1, o1 + k * 7 + 2, none⟩ = some (Value.slice E2 x2.length f2) ∧ w'.cell? ⟨b1, o1 + k * 7 + 3, none⟩ = some (Value.slice E3 x3.length f3) ∧ w'.cell? ⟨b1, o1 + k * 7 + 4, none⟩ = some (Value.bool z4) ∧ w'.cell? ⟨b1, o1 + k * 7 + 5, none⟩ = some (Value.slice E5 x5.length f5) ∧ w'.cell? ⟨b1, o1 + k * 7 + 6, none⟩ = some (Value.string z6))
              (first | with_reducible exact KS.out _ D4.out | with_reducible exact KS.out _ D2.out | with_reducible exact KS.out _ D2r.out | go_keep)
              (first | (go_at_call 16; (with_reducible refine (Calls.mono (VR.out _ (by first | exact D2.out | exact D2r.out))) ?_); rintro e wz ⟨rfl, b4⟩; (have D4 := Lib.hid (show Below wr.heap.size wr wz from by first | exact below_step D2.out b4 | exact b4)); clear b4))
            all_goals
              have B7 := Lib.hid (show Below w1.heap.size w1 _ from below_step HBW.out D4.out)
              go_wp2
              go_roundw
              case rel => exact ⟨k + 1, by omega, by go_num, HF, by first | exact B7.out | exact B7.out.drew⟩
              case measure => simp [intOf]; omega
        · obtain rfl : k = rs.length := by omega
          have HF := Lib.hid (show R = true by rw [← HAL.out, List.drop_length]; rfl)
          go_wp2
          go_ret
          exact ⟨ArgI.ret_b HF.out.symm, BW.out⟩
    · have hq8 : decide ((rs.length : Int) > 8) = true := decide_eq_true (by omega)
      have HF := Lib.hid (show R = false by rw [HO.out, decide_eq_false n8]; rfl)
      go_wp2
      go_ret
      exact ⟨ArgI.ret_b HF.out.symm, B1.out⟩
end ProgS
namespace ProgI
open RowK Mem ProgM
theorem progA {A0 : Option Addr} {c0 : Nat} {x0 : List FunctionT} {A1 : Option Addr} {c1 : Nat} {x1 : List RuleT} {w : World} (h : ArgR prg w [.slice A0 x0.length c0, .slice A1 x1.length c1] (x0, x1)) (hl : szProgramU (x0, x1) ≤ 9000000) :
    Calls Tryz.prog 8 #[.agg #[.slice A0 x0.length c0, .slice A1 x1.length c1]] w fun e w' => e = .returned (.bool (progV x0 x1)) ∧ Below w.heap.size w w' :=
  validProg A0 A1 c0 c1 x0 x1 w (arg_prg h).1 (arg_prg h).2 hl
end ProgI
namespace ProgS
open RowK Mem ProgM ProgI
theorem progA {A0 : Option Addr} {c0 : Nat} {x0 : List FunctionT} {A1 : Option Addr} {c1 : Nat} {x1 : List RuleT} {w : World} (h : ArgR prg w [.slice A0 x0.length c0, .slice A1 x1.length c1] (x0, x1)) (hl : szProgramU (x0, x1) ≤ 9000000) :
    Calls Tryz.prog 9 #[.agg #[.slice A0 x0.length c0, .slice A1 x1.length c1]] w fun e w' => e = .returned (.bool (progV x0 x1)) ∧ Below w.heap.size w w' :=
  validProg A0 A1 c0 c1 x0 x1 w (arg_prg h).1 (arg_prg h).2 hl
end ProgS
end Go.Proofs.YtbdpohcababccaaGreat
