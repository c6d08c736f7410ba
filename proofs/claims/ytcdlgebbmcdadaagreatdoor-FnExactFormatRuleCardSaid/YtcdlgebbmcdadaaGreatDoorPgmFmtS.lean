import Derived.Test.YtcdlgebbmcdadaaGreatDoorPgmFmt3
/-
  The text of a rule, of the model (made by tools/s11g.py).
-/
namespace Go.Proofs.YtcdlgebbmcdadaaGreatDoor
open Go.RowKit
namespace FmtR
open Mem ArgM
theorem barred_le {α : Type} {f : α → Bt} {sz : α → Nat} (h : ∀ x, (ba (f x)).size ≤ 1000 * (1 + sz x)) : ∀ l : List α, (barred (l.map f)).length ≤ 1003 * (l.length + szs sz l)
  | [] => by simp [barred]
  | a :: l => by
    have h1 := h a
    rw [ba_size] at h1
    have h2 := barred_le h l
    have e : szs sz (a :: l) = sz a + szs sz l := by simp [szs]
    unfold barred at h2 ⊢
    rw [e]
    simp only [List.map_cons, List.flatten_cons, List.length_append, List.length_cons, bar, List.length_nil]
    simp only [bar] at h2
    omega
theorem argsT_snoc (l : List ArgT) (a : ArgT) : argsT (l ++ [a]) = if l = [] then [32] ++ FA a else argsT l ++ ([32, 44] ++ ([32] ++ FA a)) := by
  cases l with
  | nil => simp [argsT]
  | cons b l => simp [argsT]
end FmtR
namespace FmtS
open RowK Mem FmtR ProgI ArgM
set_option maxHeartbeats 8000000 in
set_option maxRecDepth 100000 in
theorem rule (z0 : ByteArray) (A1 : Option Addr) (c1 : Nat) (x1 : List PatternT) (A2 : Option Addr) (c2 : Nat) (x2 : List SumT) (A3 : Option Addr) (c3 : Nat) (x3 : List CallT) (z4 : Bool) (A5 : Option Addr) (c5 : Nat) (x5 : List SumT) (z6 : ByteArray) (w : World)
    (h1 : ArgS Mem.pat w A1 x1.length c1 x1) (h2 : ArgS Mem.sum w A2 x2.length c2 x2) (h3 : ArgS Mem.call w A3 x3.length c3 x3) (h5 : ArgS Mem.sum w A5 x5.length c5 x5) (hr : szRuleU (z0, x1, x2, x3, z4, x5, z6) ≤ 10000000) :
    Calls Tryz.prog 5 #[.agg #[.string z0, .slice A1 x1.length c1, .slice A2 x2.length c2, .slice A3 x3.length c3, .bool z4, .slice A5 x5.length c5, .string z6]] w fun e w' => e = .returned (.string (ba (ruleT (z0, x1, x2, x3, z4, x5, z6)))) ∧ Below w.heap.size w w' := by
  simp only [szRuleU] at hr
  have HRS := Lib.hid hr
  obtain ⟨w1, hw1⟩ : ∃ u, u = w.alloc (Obj.cells #[Value.string z0, Value.slice A1 x1.length c1, Value.slice A2 x2.length c2, Value.slice A3 x3.length c3, Value.bool z4, Value.slice A5 x5.length c5, Value.string z6] 37) := ⟨_, rfl⟩
  have B0 := Lib.hid (show Below w.heap.size w w1 by rw [hw1]; exact (Below.refl _ _).alloc (Nat.le_refl _) _)
  have V0 := Lib.hid (show Lvar w1 w.heap.size #[Value.string z0, Value.slice A1 x1.length c1, Value.slice A2 x2.length c2, Value.slice A3 x3.length c3, Value.bool z4, Value.slice A5 x5.length c5, Value.string z6] by rw [hw1]; exact Lvar.new w _ _)
  have H1 := Lib.hid h1
  have H2 := Lib.hid h2
  have H3 := Lib.hid h3
  have H5 := Lib.hid h5
  have hxl : x1.length ≤ 10000000 ∧ x2.length ≤ 10000000 ∧ x3.length ≤ 10000000 := by omega
  have hz0 : z0.size ≤ 10000000 := by omega
  have n0 : decide (9223372036854775807 < 5 + z0.size) = false := decide_eq_false (by omega)
  have n00 : 5 + z0.size ≤ 9223372036854775807 := by omega
  have HL0 := Lib.hid (show (headT z0).length ≤ 10000005 by unfold headT; simp only [List.length_append, data_len, List.length_cons, List.length_nil]; omega)
  have HL1 := Lib.hid (fun k => barred_le pat_le (x1.take k))
  have HL2 := Lib.hid (fun k => barred_le guard_le (x2.take k))
  have HL3 := Lib.hid (fun k => barred_le call_le (x3.take k))
  obtain ⟨R, hR⟩ : ∃ R, R = ba (ruleT (z0, x1, x2, x3, z4, x5, z6)) := ⟨_, rfl⟩
  rw [← hR]
  have HRR := Lib.hid (show R.data.toList = ruleT (z0, x1, x2, x3, z4, x5, z6) by rw [hR, ba_data])
  clear h1 h2 h3 h5 hr hR
  go_enter Tryz.func5, Tryz.ntmps5
  go_wp2
  go_loopw [3, 4] (fun v i wr => ∃ (k : Nat) (o : ByteArray), k ≤ x1.length ∧ i = .int .i64 k ∧ v = .string o ∧ Hid (o.data.toList = headT z0 ++ barred ((x1.take k).map patT)) ∧ Hid (o.size ≤ 100000000000) ∧ Below w1.heap.size w1 wr) (fun _ i _ => x1.length - (intOf i).toNat)
  case atStart => exact ⟨0, _, Nat.zero_le _, rfl, rfl, Lib.hid (by simp [headT, barred, ByteArray.data_append]), Lib.hid (by rw [ByteArray.size_append]; have : (⟨#[114, 117, 108, 101, 32]⟩ : ByteArray).size = 5 := rfl; omega), by rw [hw1]; exact Below.refl _ _⟩
  case round =>
    obtain ⟨k, o, hk, rfl, rfl, hO, hS, hb⟩ := hrel
    have HO := Lib.hid hO.out
    have hos := hS.out
    have HB := Lib.hid hb
    clear hO hS hb
    have BW := Lib.hid (below_step B0.out HB.out)
    have VW := Lib.hid (V0.out.below HB.out)
    clear hw1
    have q1 : wr.cell? ⟨w.heap.size, 1, none⟩ = some (.slice A1 x1.length c1) := VW.out.cell 1 _ rfl
    by_cases hlt : k < x1.length
    · skip
      obtain ⟨b, oo, rfl, hbb, g0, g1, g2, g3⟩ := (H1.out.below BW.out).pat_at hlt
      have hsz : szPatternU x1[k] ≤ 100000000 := by
        have := HRS.out
        have := szs_mem (sz := szPatternU) (List.getElem_mem hlt)
        omega
      have HST := Lib.hid (show barred ((x1.take (k + 1)).map patT) = barred ((x1.take k).map patT) ++ (bar ++ patT x1[k]) by rw [take_snoc hlt, List.map_append, barred_append]; simp [barred])
      have HLK := Lib.hid (show (headT z0 ++ barred ((x1.take (k + 1)).map patT)).length ≤ 100000000000 by
        rw [List.length_append]
        have := HL0.out
        have h9 := HL1.out (k + 1)
        have h8 := szs_take (sz := szPatternU) x1 (k + 1)
        have := HRS.out
        rw [List.length_take] at h9
        omega)
      generalize x1[k] = x at *
      obtain ⟨y0, y1, y2, y3⟩ := x
      simp only at g0 g1 g2 g3
      simp only [szPatternU] at hsz
      have hi0 : (0 : Int) ≤ (k : Int) := by omega
      have hi1 : (k : Int) < (x1.length : Int) := by omega
      have BA := Lib.hid (show Below w1.heap.size w1 (wr.alloc (Obj.cells #[Value.string y0, Value.bool y1, Value.string y2, Value.string y3] 46)) from below_step HB.out ((Below.refl _ _).alloc (Nat.le_refl _) _))
      have hy0 : y0.size ≤ 100000000 := by omega
      have hy2 : y2.size ≤ 100000000 := by omega
      have hy3 : y3.size ≤ 100000000 := by omega
      clear hsz
      have sd0 : decide (9223372036854775807 < o.size + 3) = false := decide_eq_false (by omega)
      have se0 : o.size + 3 ≤ 9223372036854775807 := by omega
      have sd1 : decide (9223372036854775807 < o.size + 3 + y0.size) = false := decide_eq_false (by omega)
      have se1 : o.size + 3 + y0.size ≤ 9223372036854775807 := by omega
      have sd2 : decide (9223372036854775807 < o.size + 3 + y0.size + 3) = false := decide_eq_false (by omega)
      have se2 : o.size + 3 + y0.size + 3 ≤ 9223372036854775807 := by omega
      have sd3 : decide (9223372036854775807 < o.size + 3 + y0.size + 3 + y2.size) = false := decide_eq_false (by omega)
      have se3 : o.size + 3 + y0.size + 3 + y2.size ≤ 9223372036854775807 := by omega
      have sd4 : decide (9223372036854775807 < o.size + 3 + y0.size + 3 + y2.size + 3) = false := decide_eq_false (by omega)
      have se4 : o.size + 3 + y0.size + 3 + y2.size + 3 ≤ 9223372036854775807 := by omega
      have sd5 : decide (9223372036854775807 < o.size + 3 + y0.size + 3 + y2.size + 3 + y3.size) = false := decide_eq_false (by omega)
      have se5 : o.size + 3 + y0.size + 3 + y2.size + 3 + y3.size ≤ 9223372036854775807 := by omega
      have d9 : decide (9223372036854775807 < o.size + 3 + y0.size + 6) = false := decide_eq_false (by omega)
      have e9 : o.size + 3 + y0.size + 6 ≤ 9223372036854775807 := by omega
      cases y1
      case false =>
        have HT := Lib.hid (show (o ++ ⟨#[32, 124, 32]⟩ ++ y0 ++ ⟨#[32, 61, 32, 110, 105, 108]⟩ : ByteArray).data.toList = headT z0 ++ barred ((x1.take (k + 1)).map patT) by rw [HST.out, ← List.append_assoc, ← HO.out]; simp [patT, bar, ByteArray.data_append])
        have HS := Lib.hid (show (o ++ ⟨#[32, 124, 32]⟩ ++ y0 ++ ⟨#[32, 61, 32, 110, 105, 108]⟩ : ByteArray).size ≤ 100000000000 by rw [← data_len, HT.out]; exact HLK.out)
        go_wp2
        go_roundw
        case rel => exact ⟨k + 1, _, by omega, by go_num, rfl, HT, HS, BA.out⟩
        case measure => simp [intOf]; omega
      case true =>
        have HT := Lib.hid (show (o ++ ⟨#[32, 124, 32]⟩ ++ y0 ++ ⟨#[32, 61, 32]⟩ ++ y2 ++ ⟨#[32, 58, 32]⟩ ++ y3 : ByteArray).data.toList = headT z0 ++ barred ((x1.take (k + 1)).map patT) by rw [HST.out, ← List.append_assoc, ← HO.out]; simp [patT, bar, ByteArray.data_append])
        have HS := Lib.hid (show (o ++ ⟨#[32, 124, 32]⟩ ++ y0 ++ ⟨#[32, 61, 32]⟩ ++ y2 ++ ⟨#[32, 58, 32]⟩ ++ y3 : ByteArray).size ≤ 100000000000 by rw [← data_len, HT.out]; exact HLK.out)
        go_wp2
        go_roundw
        case rel => exact ⟨k + 1, _, by omega, by go_num, rfl, HT, HS, BA.out⟩
        case measure => simp [intOf]; omega
    · obtain rfl : k = x1.length := by omega
      have HO := Lib.hid (show o.data.toList = headT z0 ++ barred (x1.map patT) by rw [HO.out, List.take_length])
      have q2 : wr.cell? ⟨w.heap.size, 2, none⟩ = some (.slice A2 x2.length c2) := VW.out.cell 2 _ rfl
      have HB9 := Lib.hid HB.out
      go_wp2
      go_loopw [3, 6] (fun v i wr => ∃ (k : Nat) (o : ByteArray), k ≤ x2.length ∧ i = .int .i64 k ∧ v = .string o ∧ Hid (o.data.toList = headT z0 ++ barred (x1.map patT) ++ barred ((x2.take k).map guardT)) ∧ Hid (o.size ≤ 100000000000) ∧ Below w1.heap.size w1 wr) (fun _ i _ => x2.length - (intOf i).toNat)
      case atStart => exact ⟨0, o, Nat.zero_le _, rfl, rfl, Lib.hid (by rw [HO.out]; simp [barred]), Lib.hid hos, HB9.out⟩
      case round =>
        obtain ⟨k, o, hk, rfl, rfl, hO, hS, hb⟩ := hrel
        have HO := Lib.hid hO.out
        have hos := hS.out
        have HB := Lib.hid hb
        clear hO hS hb
        have BW := Lib.hid (below_step B0.out HB.out)
        have VW := Lib.hid (V0.out.below HB.out)
        clear HB9 q1 q2
        have q2 : wr.cell? ⟨w.heap.size, 2, none⟩ = some (.slice A2 x2.length c2) := VW.out.cell 2 _ rfl
        by_cases hlt : k < x2.length
        · skip
          obtain ⟨b, oo, G1, e1, rfl, hbb, g0, g1, r1⟩ := (H2.out.below BW.out).sum_at hlt
          have hsz : szSum x2[k] ≤ 10000000 := by
            have := HRS.out
            have := szs_mem (sz := szSum) (List.getElem_mem hlt)
            omega
          have HST := Lib.hid (show barred ((x2.take (k + 1)).map guardT) = barred ((x2.take k).map guardT) ++ (bar ++ guardT x2[k]) by rw [take_snoc hlt, List.map_append, barred_append]; simp [barred])
          have HLK := Lib.hid (show (headT z0 ++ barred (x1.map patT) ++ barred ((x2.take (k + 1)).map guardT)).length ≤ 100000000000 by
            rw [List.length_append, List.length_append]
            have := HL0.out
            have h7 := HL1.out x1.length
            rw [List.take_length] at h7
            have h9 := HL2.out (k + 1)
            have h8 := szs_take (sz := szSum) x2 (k + 1)
            have := HRS.out
            rw [List.length_take] at h9
            omega)
          generalize x2[k] = x at *
          obtain ⟨y0, ys⟩ := x
          simp only at g0 g1 r1
          have hi0 : (0 : Int) ≤ (k : Int) := by omega
          have hi1 : (k : Int) < (x2.length : Int) := by omega
          have e99 : szSum (y0, ys) = ys.length + szs tsz ys := rfl
          have FO := Lib.hid (ArgP.formatSum y0 G1 e1 ys wr r1 (by omega) (fun t ht => by have := szs_mem (sz := tsz) ht; have e7 : tsz t = t.2.size := rfl; omega))
          have hFl := fmtS_le (y0, ys)
          clear hsz r1 e99
          have HT := Lib.hid (show (o ++ ⟨#[32, 124, 32]⟩ ++ ByteArray.mk (FS (y0, ys)).toArray ++ ⟨#[32, 62, 61, 32, 48]⟩ : ByteArray).data.toList = headT z0 ++ barred (x1.map patT) ++ barred ((x2.take (k + 1)).map guardT) by rw [HST.out, ← List.append_assoc, ← HO.out]; simp [guardT, bar, ByteArray.data_append])
          have HS := Lib.hid (show (o ++ ⟨#[32, 124, 32]⟩ ++ ByteArray.mk (FS (y0, ys)).toArray ++ ⟨#[32, 62, 61, 32, 48]⟩ : ByteArray).size ≤ 100000000000 by rw [← data_len, HT.out]; exact HLK.out)
          generalize FS (y0, ys) = F0 at *
          have sd0 : decide (9223372036854775807 < o.size + 3) = false := decide_eq_false (by omega)
          have se0 : o.size + 3 ≤ 9223372036854775807 := by omega
          have sd1 : decide (9223372036854775807 < o.size + 3 + F0.length) = false := decide_eq_false (by omega)
          have se1 : o.size + 3 + F0.length ≤ 9223372036854775807 := by omega
          have sd2 : decide (9223372036854775807 < o.size + 3 + F0.length + 5) = false := decide_eq_false (by omega)
          have se2 : o.size + 3 + F0.length + 5 ≤ 9223372036854775807 := by omega
          go_wp2_with fail
          refine (Calls.mono FO.out) ?_
          rintro e w3 ⟨rfl, b3⟩
          have B3 := Lib.hid (below_step HB.out b3)
          clear b3
          go_wp2
          go_roundw
          case rel => exact ⟨k + 1, _, by omega, by go_num, rfl, HT, HS, B3.out⟩
          case measure => simp [intOf]; omega
        · obtain rfl : k = x2.length := by omega
          have HO := Lib.hid (show o.data.toList = headT z0 ++ (barred (x1.map patT) ++ barred (x2.map guardT)) by rw [HO.out, List.take_length, List.append_assoc])
          have q3 : wr.cell? ⟨w.heap.size, 3, none⟩ = some (.slice A3 x3.length c3) := VW.out.cell 3 _ rfl
          have HB9 := Lib.hid HB.out
          go_wp2
          go_loopw [3, 7] (fun v i wr => ∃ (k : Nat) (o : ByteArray), k ≤ x3.length ∧ i = .int .i64 k ∧ v = .string o ∧ Hid (o.data.toList = headT z0 ++ (barred (x1.map patT) ++ barred (x2.map guardT)) ++ barred ((x3.take k).map callT)) ∧ Hid (o.size ≤ 100000000000) ∧ Below w1.heap.size w1 wr) (fun _ i _ => x3.length - (intOf i).toNat)
          case atStart => exact ⟨0, o, Nat.zero_le _, rfl, rfl, Lib.hid (by rw [HO.out]; simp [barred]), Lib.hid hos, HB9.out⟩
          case round =>
            obtain ⟨k, o, hk, rfl, rfl, hO, hS, hb⟩ := hrel
            have HO := Lib.hid hO.out
            have hos := hS.out
            have HB := Lib.hid hb
            clear hO hS hb
            have BW := Lib.hid (below_step B0.out HB.out)
            have VW := Lib.hid (V0.out.below HB.out)
            clear HB9 q2 q3
            have q3 : wr.cell? ⟨w.heap.size, 3, none⟩ = some (.slice A3 x3.length c3) := VW.out.cell 3 _ rfl
            by_cases hlt : k < x3.length
            · skip
              obtain ⟨b, oo, G1, e1, rfl, hbb, g0, g1, g2, r1⟩ := (H3.out.below BW.out).call_at hlt
              have hsz : szCallU x3[k] ≤ 10000000 := by
                have := HRS.out
                have := szs_mem (sz := szCallU) (List.getElem_mem hlt)
                omega
              have HST := Lib.hid (show barred ((x3.take (k + 1)).map callT) = barred ((x3.take k).map callT) ++ (bar ++ callT x3[k]) by rw [take_snoc hlt, List.map_append, barred_append]; simp [barred])
              have HLK := Lib.hid (show (headT z0 ++ (barred (x1.map patT) ++ barred (x2.map guardT)) ++ barred ((x3.take (k + 1)).map callT)).length ≤ 100000000000 by
                rw [List.length_append, List.length_append, List.length_append]
                have := HL0.out
                have h7 := HL1.out x1.length
                rw [List.take_length] at h7
                have h6 := HL2.out x2.length
                rw [List.take_length] at h6
                have h9 := HL3.out (k + 1)
                have h8 := szs_take (sz := szCallU) x3 (k + 1)
                have := HRS.out
                rw [List.length_take] at h9
                omega)
              generalize x3[k] = x at *
              obtain ⟨y0, y1, ya⟩ := x
              simp only at g0 g1 g2 r1
              simp only [szCallU] at hsz
              have hi0 : (0 : Int) ≤ (k : Int) := by omega
              have hi1 : (k : Int) < (x3.length : Int) := by omega
              have HSZ := Lib.hid hsz
              have hya : ya.length ≤ 10000000 := by omega
              have hy0 : y0.size ≤ 10000000 := by omega
              have hy1 : y1.size ≤ 10000000 := by omega
              have BA := Lib.hid (show Below wr.heap.size wr (wr.alloc (Obj.cells #[Value.string y0, Value.string y1, Value.slice G1 ya.length e1] 53)) from (Below.refl _ _).alloc (Nat.le_refl _) _)
              have XV := Lib.hid (Lvar.new wr #[Value.string y0, Value.string y1, Value.slice G1 ya.length e1] 53)
              have R1 := Lib.hid r1
              clear hsz r1
              have sd0 : decide (9223372036854775807 < o.size + 3) = false := decide_eq_false (by omega)
              have se0 : o.size + 3 ≤ 9223372036854775807 := by omega
              have sd1 : decide (9223372036854775807 < o.size + 3 + y0.size) = false := decide_eq_false (by omega)
              have se1 : o.size + 3 + y0.size ≤ 9223372036854775807 := by omega
              have sd2 : decide (9223372036854775807 < o.size + 3 + y0.size + 4) = false := decide_eq_false (by omega)
              have se2 : o.size + 3 + y0.size + 4 ≤ 9223372036854775807 := by omega
              have sd3 : decide (9223372036854775807 < o.size + 3 + y0.size + 4 + y1.size) = false := decide_eq_false (by omega)
              have se3 : o.size + 3 + y0.size + 4 + y1.size ≤ 9223372036854775807 := by omega
              obtain ⟨O2, hO2⟩ : ∃ O2 : ByteArray, O2 = o ++ ⟨#[32, 124, 32]⟩ ++ y0 ++ ⟨#[32, 58, 61, 32]⟩ ++ y1 := ⟨_, rfl⟩
              have HO2 := Lib.hid (show O2.data.toList = o.data.toList ++ (bar ++ (y0.data.toList ++ ([32, 58, 61, 32] ++ y1.data.toList))) by rw [hO2]; simp [bar, ByteArray.data_append])
              have HC := Lib.hid (show O2.data.toList ++ argsT ya = headT z0 ++ (barred (x1.map patT) ++ barred (x2.map guardT)) ++ barred ((x3.take (k + 1)).map callT) by rw [HST.out, ← List.append_assoc (headT z0 ++ _), ← HO.out, HO2.out]; simp [callT])
              have hO2s : O2.size ≤ 200000000000 := by
                rw [← data_len, HO2.out]
                simp only [List.length_append, data_len, bar, List.length_cons, List.length_nil]
                omega
              obtain ⟨wo, hwo⟩ : ∃ u, u = wr := ⟨_, rfl⟩
              subst hwo
              go_wp2
              go_loopw [3, 9] (fun v i wr => ∃ (m : Nat) (o : ByteArray), m ≤ ya.length ∧ i = .int .i64 m ∧ v = .string o ∧ Hid (o.data.toList = O2.data.toList ++ argsT (ya.take m)) ∧ Below wo.heap.size wo wr ∧ Lvar wr wo.heap.size #[Value.string y0, Value.string y1, Value.slice G1 ya.length e1]) (fun _ i _ => ya.length - (intOf i).toNat)
              case atStart => exact ⟨0, O2, Nat.zero_le _, rfl, by rw [hO2], Lib.hid (by simp [argsT]), BA.out, XV.out⟩
              case round =>
                clear BA XV q3 g0 g1 g2 hO2
                obtain ⟨m, o3, hm, rfl, rfl, hO, hb, hv⟩ := hrel
                have HO3 := Lib.hid hO.out
                have HBM := Lib.hid hb
                have HXV := Lib.hid hv
                clear hO hb hv
                have xx : wr.cell? ⟨wo.heap.size, 2, none⟩ = some (.slice G1 ya.length e1) := HXV.out.cell 2 _ rfl
                have ho3 : o3.size ≤ 300000000000 := by
                  rw [← data_len, HO3.out, List.length_append, data_len]
                  have := argsT_le (ya.take m)
                  rw [List.length_take] at this
                  omega
                by_cases hmt : m < ya.length
                · skip
                  obtain ⟨b4, o4, X1, f1, rfl, hbb4, g0, g1, g2, r4⟩ := (R1.out.below HBM.out).arg_at hmt
                  have hsz : szArgU ya[m] ≤ 10000000 := by
                    have := HSZ.out
                    have := szs_mem (sz := szArgU) (List.getElem_mem hmt)
                    omega
                  have HSA := Lib.hid (show argsT (ya.take (m + 1)) = if ya.take m = [] then [32] ++ FA ya[m] else argsT (ya.take m) ++ ([32, 44] ++ ([32] ++ FA ya[m])) by rw [take_snoc hmt, argsT_snoc])
                  have HTN := Lib.hid (show ya.take m = [] ↔ m = 0 by
                    rw [← List.length_eq_zero_iff, List.length_take]
                    omega)
                  generalize ya[m] = x at *
                  obtain ⟨q0, q1, q2⟩ := x
                  simp only at g0 g1 g2 r4
                  have hj0 : (0 : Int) ≤ (m : Int) := by omega
                  have hj1 : (m : Int) < (ya.length : Int) := by omega
                  have FO := Lib.hid (ArgP.formatArg q0 q2 X1 f1 q1 wr r4 (by simp only [szArgU] at hsz; have := ssl_small (n := 10000000) (xs := q1) (by omega); omega) (sums_small (z0 := q0) (z2 := q2) hsz) (by simp only [szArgU] at hsz; omega))
                  have hFl := FA_le (q0, q1, q2)
                  clear hsz r4
                  generalize FA (q0, q1, q2) = F0 at *
                  by_cases h0 : m = 0
                  · subst h0
                    simp only [Nat.zero_mul, Nat.add_zero] at g0 g1 g2
                    have HT := Lib.hid (show (o3 ++ ⟨#[32]⟩ ++ ByteArray.mk F0.toArray : ByteArray).data.toList = O2.data.toList ++ argsT (ya.take (0 + 1)) by rw [HSA.out, if_pos (HTN.out.2 rfl)]; simp [HO3.out, argsT, ByteArray.data_append])
                    have sd0 : decide (9223372036854775807 < o3.size + 1) = false := decide_eq_false (by omega)
                    have se0 : o3.size + 1 ≤ 9223372036854775807 := by omega
                    have sd1 : decide (9223372036854775807 < o3.size + 1 + F0.length) = false := decide_eq_false (by omega)
                    have se1 : o3.size + 1 + F0.length ≤ 9223372036854775807 := by omega
                    go_wp2_with fail
                    refine (Calls.mono FO.out) ?_
                    rintro e w5 ⟨rfl, b5⟩
                    have B5 := Lib.hid (below_step HBM.out b5)
                    have X5 := Lib.hid (HXV.out.below b5)
                    clear b5
                    go_wp2
                    go_roundw
                    case rel => exact ⟨0 + 1, _, by omega, by go_num, rfl, HT, B5.out, X5.out⟩
                    case measure => simp [intOf]; omega
                  · have hgt : decide ((m : Int) > 0) = true := decide_eq_true (by omega)
                    have HT := Lib.hid (show (o3 ++ ⟨#[32, 44]⟩ ++ ⟨#[32]⟩ ++ ByteArray.mk F0.toArray : ByteArray).data.toList = O2.data.toList ++ argsT (ya.take (m + 1)) by rw [HSA.out, if_neg (fun e => h0 (HTN.out.1 e))]; simp [HO3.out, ByteArray.data_append])
                    have sd0 : decide (9223372036854775807 < o3.size + 2) = false := decide_eq_false (by omega)
                    have se0 : o3.size + 2 ≤ 9223372036854775807 := by omega
                    have sd1 : decide (9223372036854775807 < o3.size + 2 + 1) = false := decide_eq_false (by omega)
                    have se1 : o3.size + 2 + 1 ≤ 9223372036854775807 := by omega
                    have sd2 : decide (9223372036854775807 < o3.size + 2 + 1 + F0.length) = false := decide_eq_false (by omega)
                    have se2 : o3.size + 2 + 1 + F0.length ≤ 9223372036854775807 := by omega
                    go_wp2_with fail
                    refine (Calls.mono FO.out) ?_
                    rintro e w5 ⟨rfl, b5⟩
                    have B5 := Lib.hid (below_step HBM.out b5)
                    have X5 := Lib.hid (HXV.out.below b5)
                    clear b5
                    go_wp2
                    go_roundw
                    case rel => exact ⟨m + 1, _, by omega, by go_num, rfl, HT, B5.out, X5.out⟩
                    case measure => simp [intOf]; omega
                · obtain rfl : m = ya.length := by omega
                  have HT := Lib.hid (show o3.data.toList = headT z0 ++ (barred (x1.map patT) ++ barred (x2.map guardT)) ++ barred ((x3.take (k + 1)).map callT) by rw [HO3.out, List.take_length, HC.out])
                  have HS := Lib.hid (show o3.size ≤ 100000000000 by rw [← data_len, HT.out]; exact HLK.out)
                  have B6 := Lib.hid (below_step HB.out HBM.out)
                  go_wp2
                  go_roundw
                  case rel => exact ⟨k + 1, o3, by omega, by go_num, rfl, HT, HS, B6.out⟩
                  case measure => simp [intOf]; omega
            · obtain rfl : k = x3.length := by omega
              have HO := Lib.hid (show o.data.toList = headT z0 ++ (barred (x1.map patT) ++ barred (x2.map guardT)) ++ barred (x3.map callT) by rw [HO.out, List.take_length])
              have v4 : wr.cell? ⟨w.heap.size, 4, none⟩ = some (.bool z4) := VW.out.cell 4 _ rfl
              have v5 : wr.cell? ⟨w.heap.size, 5, none⟩ = some (.slice A5 x5.length c5) := VW.out.cell 5 _ rfl
              have v6 : wr.cell? ⟨w.heap.size, 6, none⟩ = some (.string z6) := VW.out.cell 6 _ rfl
              have hsz : szArgU (z4, x5, z6) ≤ 10000000 := by have := HRS.out; omega
              have FO := Lib.hid (ArgP.formatArg z4 z6 A5 c5 x5 wr (H5.out.below BW.out) (by simp only [szArgU] at hsz; have := ssl_small (n := 10000000) (xs := x5) (by omega); omega) (sums_small (z0 := z4) (z2 := z6) hsz) (by simp only [szArgU] at hsz; omega))
              have hFl := FA_le (z4, x5, z6)
              have HF := Lib.hid (show (o ++ ⟨#[32, 124, 32, 114, 101, 116, 117, 114, 110, 32]⟩ ++ ByteArray.mk (FA (z4, x5, z6)).toArray : ByteArray) = R from NameM.toList_inj (by rw [HRR.out]; simp [HO.out, ruleT, endT, bar, ByteArray.data_append]))
              clear hsz
              generalize FA (z4, x5, z6) = F0 at *
              have sd0 : decide (9223372036854775807 < o.size + 10) = false := decide_eq_false (by omega)
              have se0 : o.size + 10 ≤ 9223372036854775807 := by omega
              have sd1 : decide (9223372036854775807 < o.size + 10 + F0.length) = false := decide_eq_false (by omega)
              have se1 : o.size + 10 + F0.length ≤ 9223372036854775807 := by omega
              go_wp2_with fail
              refine (Calls.mono FO.out) ?_
              rintro e w3 ⟨rfl, b3⟩
              have B3 := Lib.hid (below_step BW.out b3)
              clear b3
              go_wp2
              go_ret
              exact ⟨congrArg (fun s => Ending.returned (Value.string s)) HF.out, B3.out⟩
end FmtS
end Go.Proofs.YtcdlgebbmcdadaaGreatDoor
