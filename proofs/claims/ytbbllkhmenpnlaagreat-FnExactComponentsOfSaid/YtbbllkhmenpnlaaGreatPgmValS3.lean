import Derived.Test.YtbbllkhmenpnlaaGreatPgmVal4
import Derived.Test.YtbbllkhmenpnlaaGreatArgSpec
import Derived.Test.YtbbllkhmenpnlaaGreatAppend4
import Derived.Deep.RegionHeld3
/-
  Programs: validity of rules, of the model (made by tools/s10w.py): names, arguments, guards, patterns.
-/
namespace Go.Proofs.YtbbllkhmenpnlaaGreat
open Go.RowKit
namespace ProgS
open RowK Mem ProgM ProgI
set_option maxHeartbeats 4000000 in
set_option maxRecDepth 100000 in
theorem intName (s : ByteArray) (hs : s.size ≤ 9223372036854775807) (w : World) :
  Calls Tryz.prog 94 #[.string s] w fun e w' => e = .returned (.bool (ArgM.intName s)) ∧ Below w.heap.size w w' := by
 have BB0 := Lib.hid (Below.refl w.heap.size w)
 have EV := Lib.hid (fun W (_h : Below w.heap.size w W) => NameS.specValid s W (by unfold maxLen; exact hs))
 have EL := Lib.hid (fun W (_h : Below w.heap.size w W) => NameS.specList s W (by unfold maxLen; exact hs))
 have HO := Lib.hid (show ArgM.intName s = (NameM.validName s && !NameM.listName s) from rfl)
 generalize ArgM.intName s = R at *
 generalize NameM.validName s = t1 at *
 generalize NameM.listName s = t2 at *
 clear hs
 cases t1 with
 | false =>
  have HF := Lib.hid (show R = false by rw [HO.out]; simp)
  go_enter Tryz.func94, Tryz.ntmps94
  go_wp2_with fail
  refine (Calls.mono (EV.out _ ?_)) ?_
  ·first | exact BB0.out | exact BB0.out.drew | exact below_drewN BB0.out _
  rintro e w1 ⟨rfl, b1⟩
  have BB1 := Lib.hid (show Below w.heap.size w w1 from by first | exact BB0.out.trans (b1.mono BB0.out.size) | exact BB0.out.drew.trans (b1.mono BB0.out.size))
  clear b1
  go_wp2
  go_ret
  exact ⟨ArgI.ret_b HF.out.symm, BB1.out⟩
 | true =>
  have HF := Lib.hid (show R = (!t2) by rw [HO.out]; simp)
  go_enter Tryz.func94, Tryz.ntmps94
  go_wp2_with fail
  refine (Calls.mono (EV.out _ ?_)) ?_
  ·first | exact BB0.out | exact BB0.out.drew | exact below_drewN BB0.out _
  rintro e w1 ⟨rfl, b1⟩
  have BB1 := Lib.hid (show Below w.heap.size w w1 from by first | exact BB0.out.trans (b1.mono BB0.out.size) | exact BB0.out.drew.trans (b1.mono BB0.out.size))
  clear b1
  go_wp2_with fail
  refine (Calls.mono (EL.out _ ?_)) ?_
  ·first | exact BB1.out | exact BB1.out.drew | exact below_drewN BB1.out _
  rintro e w2 ⟨rfl, b2⟩
  have BB2 := Lib.hid (show Below w.heap.size w w2 from by first | exact BB1.out.trans (b2.mono BB1.out.size) | exact BB1.out.drew.trans (b2.mono BB1.out.size))
  clear b2
  go_wp2
  go_ret
  exact ⟨ArgI.ret_b HF.out.symm, BB2.out⟩
set_option maxHeartbeats 4000000 in
set_option maxRecDepth 100000 in
theorem argOk (z0 : Bool) (A1 : Option Addr) (c1 : Nat) (x1 : List SumT) (z2 : ByteArray) (l : Bool) (N : Option Addr) (cn : Nat) (sc : List ByteArray) (w : World) (h1 : ArgS Mem.sum w A1 x1.length c1 x1) (hl : szArgU (z0, x1, z2) ≤ 10000000) (hs : StrK.SRow w N sc) (hl2 : sc.length ≤ 100000000) :
  Calls Tryz.prog 103 #[.agg #[.bool z0, .slice A1 x1.length c1, .string z2], .bool l, .slice N sc.length cn] w fun e w' => e = .returned (.bool (argIn (z0, x1, z2) l sc)) ∧ Below w.heap.size w w' := by
 have ha : x1.length + szs ssl x1 ≤ 10000000 := ssl_small (by simp only [szArgU] at hl; omega)
 have hts : ∀ x ∈ x1, ∀ t ∈ x.2, t.2.size ≤ 9223372036854775807 := sums_small (z0 := z0) (z2 := z2) hl
 have hz2 : z2.size ≤ 9223372036854775807 := by simp only [szArgU] at hl; omega
 have BB0 := Lib.hid ((Below.refl w.heap.size w).alloc (Nat.le_refl _) (Obj.cells #[Value.bool z0, Value.slice A1 x1.length c1, Value.string z2] 46))
 have V0 := Lib.hid (Lvar.new w #[Value.bool z0, Value.slice A1 x1.length c1, Value.string z2] 46)
 have EV := Lib.hid (fun W (h : Below w.heap.size w W) => ArgP.validArg z0 A1 c1 x1 z2 W (h1.below h) (by omega) hts hz2)
 have EN := Lib.hid (fun W (h : Below w.heap.size w W) => ArgI.namesS z0 z2 A1 c1 x1 W (h1.below h) ha)
 have hnl : (SortM.srtB (ArgI.nmA x1 z2)).length ≤ 100000000 := Nat.le_trans (SortM.srtB_length _) (ArgI.nmA_len x1 z2 ha)
 have ES := Lib.hid (fun W (h : Below w.heap.size w W) M cm (hM : StrK.SRow W M (SortM.srtB (ArgI.nmA x1 z2))) => NameS.specWithout M N cm cn _ sc W hM (hs.below h) hnl hl2)
 have HO := Lib.hid (show argIn (z0, x1, z2) l sc = (ArgM.argV (z0, x1, z2) && ((z0 == l) && decide ((NameM.wo (SortM.srtB (ArgI.nmA x1 z2)) sc).length = 0))) from rfl)
 have hwl := NameM.wo_length (SortM.srtB (ArgI.nmA x1 z2)) sc
 have hz : (((NameM.wo (SortM.srtB (ArgI.nmA x1 z2)) sc).length : Int) == 0) = decide ((NameM.wo (SortM.srtB (ArgI.nmA x1 z2)) sc).length = 0) := by
  by_cases h : (NameM.wo (SortM.srtB (ArgI.nmA x1 z2)) sc).length = 0
  ·rw [h]; rfl
  ·rw [decide_eq_false h]; exact beq_eq_false_iff_ne.2 (by omega)
 generalize argIn (z0, x1, z2) l sc = R at *
 generalize ArgM.argV (z0, x1, z2) = t0 at *
 generalize NameM.wo (SortM.srtB (ArgI.nmA x1 z2)) sc = oo at *
 clear h1 hl hs ha hts hz2
 cases t0 with
 | false =>
  have HF := Lib.hid (show R = false by rw [HO.out]; simp)
  go_enter Tryz.func103, Tryz.ntmps103
  go_wp2_with fail
  refine (Calls.mono (EV.out _ ?_)) ?_
  ·first | exact BB0.out | exact BB0.out.drew | exact below_drewN BB0.out _
  rintro e w1 ⟨rfl, b1⟩
  have BB1 := Lib.hid (show Below w.heap.size w w1 from by first | exact BB0.out.trans (b1.mono BB0.out.size) | exact BB0.out.drew.trans (b1.mono BB0.out.size))
  clear b1
  go_wp2
  go_ret
  exact ⟨ArgI.ret_b HF.out.symm, BB1.out⟩
 | true =>
  cases z0 <;> cases l
  case false.true =>
   have HF := Lib.hid (show R = false by rw [HO.out]; simp)
   go_enter Tryz.func103, Tryz.ntmps103
   go_wp2_with fail
   refine (Calls.mono (EV.out _ ?_)) ?_
   ·first | exact BB0.out | exact BB0.out.drew | exact below_drewN BB0.out _
   rintro e w1 ⟨rfl, b1⟩
   have BB1 := Lib.hid (show Below w.heap.size w w1 from by first | exact BB0.out.trans (b1.mono BB0.out.size) | exact BB0.out.drew.trans (b1.mono BB0.out.size))
   have V1 := Lib.hid (show Lvar w1 _ _ from by first | exact V0.out.below b1 | exact (V0.out.below (Below.refl _ _).drew).below b1)
   have v1_0 := V1.out.cell 0 (.bool false) rfl
   have v1_1 := V1.out.cell 1 (.slice A1 x1.length c1) rfl
   have v1_2 := V1.out.cell 2 (.string z2) rfl
   clear b1
   go_wp2
   go_ret
   exact ⟨ArgI.ret_b HF.out.symm, BB1.out⟩
  case true.false =>
   have HF := Lib.hid (show R = false by rw [HO.out]; simp)
   go_enter Tryz.func103, Tryz.ntmps103
   go_wp2_with fail
   refine (Calls.mono (EV.out _ ?_)) ?_
   ·first | exact BB0.out | exact BB0.out.drew | exact below_drewN BB0.out _
   rintro e w1 ⟨rfl, b1⟩
   have BB1 := Lib.hid (show Below w.heap.size w w1 from by first | exact BB0.out.trans (b1.mono BB0.out.size) | exact BB0.out.drew.trans (b1.mono BB0.out.size))
   have V1 := Lib.hid (show Lvar w1 _ _ from by first | exact V0.out.below b1 | exact (V0.out.below (Below.refl _ _).drew).below b1)
   have v1_0 := V1.out.cell 0 (.bool true) rfl
   have v1_1 := V1.out.cell 1 (.slice A1 x1.length c1) rfl
   have v1_2 := V1.out.cell 2 (.string z2) rfl
   clear b1
   go_wp2
   go_ret
   exact ⟨ArgI.ret_b HF.out.symm, BB1.out⟩
  case false.false =>
   have HF := Lib.hid (show R = decide (oo.length = 0) by rw [HO.out]; simp)
   go_enter Tryz.func103, Tryz.ntmps103
   go_wp2_with fail
   refine (Calls.mono (EV.out _ BB0.out)) ?_
   rintro e w1 ⟨rfl, b1⟩
   have BB1 := Lib.hid (BB0.out.trans (b1.mono BB0.out.size))
   have V1 := Lib.hid (V0.out.below b1)
   have v1_0 := V1.out.cell 0 (.bool false) rfl
   have v1_1 := V1.out.cell 1 (.slice A1 x1.length c1) rfl
   have v1_2 := V1.out.cell 2 (.string z2) rfl
   clear b1
   go_wp2_with fail
   refine (Calls.mono (EN.out _ ?_)) ?_
   ·first | exact BB1.out | exact BB1.out.drew | exact below_drewN BB1.out _
   rintro e w2 ⟨M, cm, rfl, rM, _, b2, _, _⟩
   have BB2 := Lib.hid (show Below w.heap.size w w2 from by first | exact BB1.out.trans (b2.mono BB1.out.size) | exact BB1.out.drew.trans (b2.mono BB1.out.size))
   have ES2 := Lib.hid (ES.out w2 BB2.out M cm rM)
   clear b2 rM v1_0 v1_1 v1_2
   go_wp2_with fail
   refine (Calls.mono ES2.out) ?_
   rintro e w3 ⟨Q, cq, rfl, _, _, b3, _, _⟩
   have BB3 := Lib.hid (below_step BB2.out b3)
   clear b3
   go_wp2
   go_ret
   exact ⟨ArgI.ret_b (by rw [HF.out]; first | exact hz | simp [List.length_eq_zero_iff]), BB3.out⟩
  case true.true =>
   have HF := Lib.hid (show R = decide (oo.length = 0) by rw [HO.out]; simp)
   go_enter Tryz.func103, Tryz.ntmps103
   go_wp2_with fail
   refine (Calls.mono (EV.out _ BB0.out)) ?_
   rintro e w1 ⟨rfl, b1⟩
   have BB1 := Lib.hid (BB0.out.trans (b1.mono BB0.out.size))
   have V1 := Lib.hid (V0.out.below b1)
   have v1_0 := V1.out.cell 0 (.bool true) rfl
   have v1_1 := V1.out.cell 1 (.slice A1 x1.length c1) rfl
   have v1_2 := V1.out.cell 2 (.string z2) rfl
   clear b1
   go_wp2_with fail
   refine (Calls.mono (EN.out _ ?_)) ?_
   ·first | exact BB1.out | exact BB1.out.drew | exact below_drewN BB1.out _
   rintro e w2 ⟨M, cm, rfl, rM, _, b2, _, _⟩
   have BB2 := Lib.hid (show Below w.heap.size w w2 from by first | exact BB1.out.trans (b2.mono BB1.out.size) | exact BB1.out.drew.trans (b2.mono BB1.out.size))
   have ES2 := Lib.hid (ES.out w2 BB2.out M cm rM)
   clear b2 rM v1_0 v1_1 v1_2
   go_wp2_with fail
   refine (Calls.mono ES2.out) ?_
   rintro e w3 ⟨Q, cq, rfl, _, _, b3, _, _⟩
   have BB3 := Lib.hid (below_step BB2.out b3)
   clear b3
   go_wp2
   go_ret
   exact ⟨ArgI.ret_b (by rw [HF.out]; first | exact hz | simp [List.length_eq_zero_iff]), BB3.out⟩
theorem guard_sum {g : SumT} {sc : List ByteArray} (h : ArgM.sumV g = false) : argIn (false, [g], ⟨#[]⟩) false sc = false := by
 have : ArgM.argV (false, [g], ⟨#[]⟩) = false := by simp [ArgM.argV, h]
 unfold argIn
 rw [this]; rfl
set_option maxHeartbeats 4000000 in
set_option maxRecDepth 100000 in
theorem guards (Q : Option Addr) (cq : Nat) (gs : List SumT) (N : Option Addr) (cn : Nat) (sc : List ByteArray) (w : World) (hp : ArgS Mem.sum w Q gs.length cq gs) (hps : gs.length + szs szSum gs ≤ 9000000) (hs : StrK.SRow w N sc) (hl2 : sc.length ≤ 100000000) :
  Calls Tryz.prog 100 #[.slice Q gs.length cq, .slice N sc.length cn] w fun e w' => e = .returned (.bool (guardsV gs sc && decide (gs.length ≤ 2))) ∧ Below w.heap.size w w' := by
 have HP := Lib.hid hp
 have HPS := Lib.hid hps
 have HS := Lib.hid hs
 have hpl : gs.length ≤ 10000000 := by omega
 have hcap : gs.length ≤ cq := (ArgS.cap hp).2
 obtain ⟨R, hR⟩ : ∃ R, R = (guardsV gs sc && decide (gs.length ≤ 2)) := ⟨_, rfl⟩
 rw [← hR]
 have HRR := Lib.hid hR
 clear hp hps hs hR
 go_enter Tryz.func100, Tryz.ntmps100
 go_wp2
 go_loopw [5] (fun i wr => ∃ k : Nat, k ≤ gs.length ∧ i = .int .i64 k ∧ Hid ((guardsV (gs.drop k) sc && decide (gs.length ≤ 2)) = R) ∧ Below w.heap.size w wr) (fun i _ => gs.length - (intOf i).toNat)
 case atStart => exact ⟨0, Nat.zero_le _, rfl, Lib.hid HRR.out.symm, Below.refl _ _⟩
 case round =>
  obtain ⟨k, hk, rfl, hall, hb⟩ := hrel
  have HAL := Lib.hid hall.out
  have HB := Lib.hid hb
  clear hall hb
  by_cases hlt : k < gs.length
  ·obtain ⟨b1, o1, G1, e1, rfl, hbb1, g0, g1, r1⟩ := (HP.out.below HB.out).sum_at hlt
   obtain ⟨b9, o9, he9, hsub⟩ := ArgS_sub (d := cq - k) (HP.out.below HB.out) hlt (by omega)
   injection he9 with he9
   injection he9 with he1 he2
   subst he1; subst he2
   have hn2 : Mem.sum.n = 2 := rfl
   rw [hn2] at hsub
   have hszz : 1 + szSum gs[k] ≤ 10000000 := by
    have := HPS.out
    have := szs_mem (sz := szSum) (List.getElem_mem hlt)
    omega
   have HST := Lib.hid (guardsV_step (sc := sc) hlt)
   generalize gs[k] = x at *
   obtain ⟨y, ys⟩ := x
   simp only at g0 g1 r1
   have hi0 : (0 : Int) ≤ (k : Int) := by omega
   have hi1 : (k : Int) < (gs.length : Int) := by omega
   have hi2 : (k : Int) + 1 ≤ (gs.length : Int) := by omega
   have hi3 : (k : Int) ≤ (k : Int) + 1 := by omega
   have hi4 : (k : Int) + 1 ≤ (cq : Int) := by omega
   have hcc : ¬ cq = k := by omega
   have hsz := hszz
   have e9 : szSum (y, ys) = termsSize ys := rfl
   have e8 : termsSize ys = ys.length + szs tsz ys := rfl
   have VS := Lib.hid (ArgP.validSum y G1 e1 ys wr r1 (by omega) (fun t ht => by have := szs_mem (sz := tsz) ht; have e7 : tsz t = t.2.size := rfl; omega))
   have EA := Lib.hid (fun W (h : Below wr.heap.size wr W) => argOk false (some ⟨b1, o1 + k * 2, none⟩) (cq - k) [(y, ys)] ⟨#[]⟩ false N cn sc W (hsub.below h) (by simp only [szArgU, szs_one, List.length_singleton]; show 1 + szSum (y, ys) + 0 ≤ 10000000; omega) (HS.out.below (below_step HB.out h)) hl2)
   have HG := Lib.hid (fun h => guard_sum (g := (y, ys)) (sc := sc) h)
   clear hsub r1 hszz hsz e9 e8
   generalize ArgM.sumV (y, ys) = ts at *
   generalize argIn (false, [(y, ys)], ⟨#[]⟩) false sc = ta at *
   cases ts with
   | false =>
    have HF := Lib.hid (show R = false by rw [← HAL.out, HST.out, HG.out rfl]; rfl)
    go_wp2_with fail
    refine (Calls.mono VS.out) ?_
    rintro e w3 ⟨rfl, b3⟩
    have B3 := Lib.hid (below_step HB.out b3)
    clear b3
    go_wp2
    go_ret
    exact ⟨ArgI.ret_b HF.out.symm, B3.out⟩
   | true =>
    go_wp2_with fail
    refine (Calls.mono VS.out) ?_
    rintro e w3 ⟨rfl, b3⟩
    have EA3 := EA.out w3 b3
    simp only [List.length_singleton] at EA3
    have EA3 := Lib.hid EA3
    have B3 := Lib.hid (below_step HB.out b3)
    clear b3
    cases ta with
    | false =>
     have HF := Lib.hid (show R = false by rw [← HAL.out, HST.out]; rfl)
     go_wp2_with fail
     refine (Calls.mono EA3.out) ?_
     rintro e w4 ⟨rfl, b4⟩
     have B4 := Lib.hid (below_step B3.out b4)
     clear b4
     go_wp2
     go_ret
     exact ⟨ArgI.ret_b HF.out.symm, B4.out⟩
    | true =>
     have HF := Lib.hid (show (guardsV (gs.drop (k + 1)) sc && decide (gs.length ≤ 2)) = R by rw [← HAL.out, HST.out]; rfl)
     go_wp2_with fail
     refine (Calls.mono EA3.out) ?_
     rintro e w4 ⟨rfl, b4⟩
     have B4 := Lib.hid (below_step B3.out b4)
     clear b4
     go_wp2
     go_roundw
     case rel => exact ⟨k + 1, by omega, by go_num, HF, B4.out⟩
     case measure => simp [intOf]; omega
  ·obtain rfl : k = gs.length := by omega
   have HF := Lib.hid (show R = decide ((gs.length : Int) ≤ 2) by
    rw [← HAL.out, List.drop_length]
    show decide (gs.length ≤ 2) = _
    by_cases h : gs.length ≤ 2
    ·rw [decide_eq_true h, decide_eq_true (show (gs.length : Int) ≤ 2 by omega)]
    ·rw [decide_eq_false h, decide_eq_false (show ¬ (gs.length : Int) ≤ 2 by omega)])
   go_wp2
   go_ret
   exact ⟨ArgI.ret_b HF.out.symm, HB.out⟩
end ProgS
end Go.Proofs.YtbbllkhmenpnlaaGreat

/-
  Programs: validity of rules, of the model (made by tools/s10w.py): patterns.
-/
namespace Go.Proofs.YtbbllkhmenpnlaaGreat
open Go.RowKit
namespace ProgS
open RowK Mem ProgM ProgI
set_option maxHeartbeats 8000000 in
set_option maxRecDepth 100000 in
theorem patterns (fz0 : ByteArray) (D1 : Option Addr) (d1 : Nat) (fx1 : List ByteArray) (fz2 : Bool) (D3 : Option Addr) (d3 : Nat) (fx3 : List (Int × List Int)) (Q : Option Addr) (cq : Nat) (ps : List PatternT) (w : World)
  (h1 : ArgS Rep.str w D1 fx1.length d1 fx1) (hp : ArgS pat w Q ps.length cq ps) (hl : fx1.length ≤ 10000000) (hps : ps.length + szs szPatternU ps ≤ 10000000) :
  Calls Tryz.prog 99 #[.agg #[.string fz0, .slice D1 fx1.length d1, .bool fz2, .slice D3 fx3.length d3], .slice Q ps.length cq] w fun e w' => e = .returned (.bool (patsV fx1 ps)) ∧ Below w.heap.size w w' := by
 obtain ⟨i0, hi, hz0, hz1, hz2⟩ := info_parts strInfoU
 obtain ⟨w1, hw1⟩ : ∃ u, u = w.alloc (Obj.cells #[Value.string fz0, Value.slice D1 fx1.length d1, Value.bool fz2, Value.slice D3 fx3.length d3] 98) := ⟨_, rfl⟩
 have B0 := Lib.hid (show Below w.heap.size w w1 by rw [hw1]; exact (Below.refl _ _).alloc (Nat.le_refl _) _)
 have V0 := Lib.hid (show Lvar w1 w.heap.size #[Value.string fz0, Value.slice D1 fx1.length d1, Value.bool fz2, Value.slice D3 fx3.length d3] by rw [hw1]; exact Lvar.new w _ _)
 have N0 := Lib.hid (show Names10 w1 (.slice (some ⟨w1.heap.size, 0, none⟩) 0 0) [] (w1.alloc (Obj.cells #[] 9)) from ⟨own_none (heap_alloc_new _ _) (Nat.le_refl _), (Below.refl _ _).alloc (Nat.le_refl _) _⟩)
 have HP := Lib.hid hp
 have HPS := Lib.hid hps
 have H1 := Lib.hid (fun W (h : Below w1.heap.size w1 W) => (h1.below (below_step B0.out h)))
 have hpl : ps.length ≤ 10000000 := by omega
 have hws : w1.heap.size = w.heap.size + 1 := by rw [hw1]; simp
 obtain ⟨R, hR⟩ : ∃ R, R = patsV fx1 ps := ⟨_, rfl⟩
 rw [← hR]
 have HRR := Lib.hid (show R = patsS fx1 [] ps by rw [hR, patsS_eq])
 clear hp hps h1 hR
 go_enter Tryz.func99, Tryz.ntmps99
 go_wp2
 go_loopw [5, 6] (fun v i wr => ∃ (k : Nat) (done : List ByteArray), k ≤ ps.length ∧ i = .int .i64 k ∧ Hid (done.length = k) ∧ Hid (patsS fx1 done (ps.drop k) = R) ∧ Names10 w1 v done wr) (fun _ i _ => ps.length - (intOf i).toNat)
 case atStart =>
  rw [hws] at N0
  exact ⟨0, [], Nat.zero_le _, rfl, Lib.hid rfl, Lib.hid HRR.out.symm, by rw [hw1] at N0 ⊢; exact N0.out⟩
 case round =>
  clear hw1 N0
  obtain ⟨k, done, hk, rfl, hdone, hal, hN⟩ := hrel
  have HD := Lib.hid hdone.out
  have HAL := Lib.hid hal.out
  have HN := Lib.hid hN
  have hdl : done.length ≤ 10000000 := by rw [HD.out]; omega
  clear hN hdone hal
  have bw := below_step B0.out HN.out.2
  have BW := Lib.hid bw
  by_cases hlt : k < ps.length
  ·obtain ⟨b, o, rfl, hbb, g0, g1, g2, g3⟩ := (HP.out.below bw).pat_at hlt
   have hsz : szPatternU ps[k] ≤ 10000000 := by
    have := HPS.out
    have := szs_mem (sz := szPatternU) (List.getElem_mem hlt)
    omega
   have HST := Lib.hid (show patsS fx1 done (ps.drop k) = patsS fx1 done (ps[k] :: ps.drop (k + 1)) from by rw [List.drop_eq_getElem_cons hlt])
   have HST := Lib.hid (HAL.out.symm.trans HST.out)
   clear bw
   generalize ps[k] = x at *
   obtain ⟨y0, y1, y2, y3⟩ := x
   simp only at g0 g1 g2 g3
   simp only [szPatternU] at hsz
   have HST := Lib.hid (show R = (!decide (Lib.idxOfS fx1 y0 < 0) && (NameM.listName y0 && (!decide (0 ≤ Lib.idxOfS done y0) && ((if y1 then ArgM.intName y2 && NameM.listName y3 else decide (y2.size = 0) && decide (y3.size = 0)) && patsS fx1 (done ++ [y0]) (ps.drop (k + 1)))))) from HST.out)
   have hi0 : (0 : Int) ≤ (k : Int) := by omega
   have hi1 : (k : Int) < (ps.length : Int) := by omega
   have hd : Below wr.heap.size wr (wr.alloc (Obj.cells #[Value.string y0, Value.bool y1, Value.string y2, Value.string y3] 105)) := (Below.refl _ _).alloc (Nat.le_refl _) _
   have XV := Lib.hid (Lvar.new wr #[Value.string y0, Value.bool y1, Value.string y2, Value.string y3] 105)
   have V2 := Lib.hid ((V0.out.below HN.out.2).alloc (Obj.cells #[Value.string y0, Value.bool y1, Value.string y2, Value.string y3] 105))
   have hown0 := HN.out.1.alloc (Obj.cells #[Value.string y0, Value.bool y1, Value.string y2, Value.string y3] 105)
   obtain ⟨N, cn, hv, oN, _⟩ := gave_own HN.out.1 HN.out.2
   injection hv with hv
   subst hv
   have SD := Lib.hid (fun W (h : Below wr.heap.size wr W) => NameS.specIndex N cn done y0 W ((own_SR oN).1.below h) (by omega))
   have SP := Lib.hid (fun W (h : Below wr.heap.size wr W) => by
    obtain ⟨q, fp, h9⟩ := H1.out W (below_step HN.out.2 h)
    exact NameS.specIndex D1 d1 fx1 y0 W (strs_open h9).1 (by omega))
   have EL := Lib.hid (fun W => NameS.specList y0 W (by unfold maxLen; omega))
   have EH := Lib.hid (fun W => intName y2 (by omega) W)
   have ET := Lib.hid (fun W => NameS.specList y3 W (by unfold maxLen; omega))
   have hse2 := ArgI.str_empty y2
   have hse3 := ArgI.str_empty y3
   have HW := Lib.hid HN.out.2
   have HNL := Lib.hid (fun g (e : (Value.slice N done.length cn).ownBlock = some g) => (HN.out.1.lt g e).2)
   have HDD := Lib.hid hd
   have HOW := Lib.hid hown0
   clear hsz oN hown0 HN hd
   generalize Lib.idxOfS fx1 y0 = j1 at *
   generalize Lib.idxOfS done y0 = j2 at *
   generalize NameM.listName y0 = t0 at *
   generalize ArgM.intName y2 = t2 at *
   generalize NameM.listName y3 = t3 at *
   go_upto_region 6 with fail
   generalize wr.alloc (Obj.cells #[Value.string y0, Value.bool y1, Value.string y2, Value.string y3] 105) = w2 at *
   have q1 : w2.cell? ⟨w.heap.size, 1, none⟩ = some (.slice D1 fx1.length d1) := V2.out.cell 1 _ rfl
   have x0 : w2.cell? ⟨wr.heap.size, 0, none⟩ = some (.string y0) := XV.out.cell 0 _ rfl
   have x1 : w2.cell? ⟨wr.heap.size, 1, none⟩ = some (.bool y1) := XV.out.cell 1 _ rfl
   have x2 : w2.cell? ⟨wr.heap.size, 2, none⟩ = some (.string y2) := XV.out.cell 2 _ rfl
   have x3 : w2.cell? ⟨wr.heap.size, 3, none⟩ = some (.string y3) := XV.out.cell 3 _ rfl
   have SP2 := Lib.hid (SP.out w2 HDD.out)
   have B2 := Lib.hid (below_step BW.out HDD.out)
   clear SP
   by_cases p1 : j1 < 0
   ·have hq1 : decide (j1 < 0) = true := decide_eq_true p1
    have HF := Lib.hid (show R = false by rw [HST.out, hq1]; rfl)
    go_wp2_with fail
    refine (Calls.mono SP2.out) ?_
    rintro e w3 ⟨rfl, rfl⟩
    go_wp2
    go_ret
    exact ⟨ArgI.ret_b HF.out.symm, B2.out⟩
   ·have hq1 : decide (j1 < 0) = false := decide_eq_false p1
    go_wp2_with fail
    refine (Calls.mono SP2.out) ?_
    rintro e w3 ⟨rfl, rfl⟩
    cases t0 with
    | false =>
     have HF := Lib.hid (show R = false by rw [HST.out, hq1]; rfl)
     go_wp2_with fail
     refine (Calls.mono (EL.out _)) ?_
     rintro e w3 ⟨rfl, b3⟩
     have B3 := Lib.hid (below_step B2.out b3)
     clear b3
     go_wp2
     go_ret
     exact ⟨ArgI.ret_b HF.out.symm, B3.out⟩
    | true =>
     go_wp2_with fail
     refine (Calls.mono (EL.out _)) ?_
     rintro e w3 ⟨rfl, b3⟩
     have D3 := Lib.hid (below_step HDD.out b3)
     have B3 := Lib.hid (below_step B2.out b3)
     have X3 := Lib.hid (XV.out.below b3)
     have O3 := Lib.hid (own_below HOW.out b3)
     have SD3 := Lib.hid (SD.out w3 D3.out)
     have y30 : w3.cell? ⟨wr.heap.size, 0, none⟩ = some (.string y0) := X3.out.cell 0 _ rfl
     have y31 : w3.cell? ⟨wr.heap.size, 1, none⟩ = some (.bool y1) := X3.out.cell 1 _ rfl
     have y32 : w3.cell? ⟨wr.heap.size, 2, none⟩ = some (.string y2) := X3.out.cell 2 _ rfl
     have y33 : w3.cell? ⟨wr.heap.size, 3, none⟩ = some (.string y3) := X3.out.cell 3 _ rfl
     clear b3 q1 x0 x1 x2 x3 SP2 SD XV HOW V2
     by_cases p2 : 0 ≤ j2
     ·have hq2 : decide (j2 ≥ 0) = true := decide_eq_true p2
      have HF := Lib.hid (show R = false by rw [HST.out, hq1, decide_eq_true p2]; rfl)
      go_wp2_with fail
      refine (Calls.mono SD3.out) ?_
      rintro e w4 ⟨rfl, rfl⟩
      go_wp2
      go_ret
      exact ⟨ArgI.ret_b HF.out.symm, B3.out⟩
     ·have hq2 : decide (j2 ≥ 0) = false := decide_eq_false p2
      have HST := Lib.hid (show R = ((if y1 then t2 && t3 else decide (y2.size = 0) && decide (y3.size = 0)) && patsS fx1 (done ++ [y0]) (ps.drop (k + 1))) by rw [HST.out, hq1, decide_eq_false p2]; rfl)
      go_wp2_with fail
      refine (Calls.mono SD3.out) ?_
      rintro e w4 ⟨rfl, rfl⟩
      have hs3 := D3.out.size
      have hws3 := HW.out.size
      have hown := O3.out
      have RN := Lib.hid (show Row 0 (w3.alloc (Obj.cells #[Value.string y0] 9)).heap.size (w3.alloc (Obj.cells #[Value.string y0] 9)) (some ⟨w3.heap.size, 0, none⟩) [.string y0] from by have h9 := row_new (heap_alloc_new w3 (Obj.cells #[Value.string y0] 9)); simpa using h9)
      go_upto_region 9 with (at_builtin; (refine wpList_append_rowW rfl _ _ _ rfl 9 i0 (.string ByteArray.empty) 1 16 w1.heap.size Tryz.underlying31 hi hz0 hz1 hz2 rfl (by decide) _ done.length (done.map Value.string) rfl (hown.alloc _) _ 1 _ [.string y0] rfl rfl RN.out (by simp [Value.oneCell']) (by unfold maxLen; omega) (by omega) (by simp; omega) ?_); intro v5 w5 hown5 hgrow hwh)
      have BB : Below w1.heap.size w1 w5 := ((HW.out.trans (D3.out.mono HW.out.size)).alloc (by omega) (Obj.cells #[Value.string y0] 9)).grown hgrow (by simp; omega) (fun g e => (hown.lt g e).1)
      have NN := Lib.hid (show Names10 w1 v5 (done ++ [y0]) w5 from ⟨by simpa using hown5, BB⟩)
      have HDN := Lib.hid (show (done ++ [y0]).length = k + 1 by rw [List.length_append, HD.out]; rfl)
      have X5 := Lib.hid (lvar_grown (X3.out.alloc (Obj.cells #[Value.string y0] 9)) hgrow (fun e => by have := HNL.out _ e; omega))
      clear hown5 hgrow hwh hown BB
      have B5 := Lib.hid (below_step B0.out NN.out.2)
      have z1 : w5.cell? ⟨wr.heap.size, 1, none⟩ = some (.bool y1) := X5.out.cell 1 _ rfl
      have z2 : w5.cell? ⟨wr.heap.size, 2, none⟩ = some (.string y2) := X5.out.cell 2 _ rfl
      have z3 : w5.cell? ⟨wr.heap.size, 3, none⟩ = some (.string y3) := X5.out.cell 3 _ rfl
      clear y30 y31 y32 y33 X3 O3 SD3 EL RN
      cases y1 with
      | true =>
       cases t2 with
       | false =>
        have HF := Lib.hid (show R = false by rw [HST.out]; rfl)
        go_wp2_with fail
        refine (Calls.mono (EH.out _)) ?_
        rintro e w6 ⟨rfl, b6⟩
        have B6 := Lib.hid (below_step B5.out b6)
        clear b6
        go_wp2
        go_ret
        exact ⟨ArgI.ret_b HF.out.symm, B6.out⟩
       | true =>
        go_wp2_with fail
        refine (Calls.mono (EH.out _)) ?_
        rintro e w6 ⟨rfl, b6⟩
        have B6 := Lib.hid (below_step B5.out b6)
        have X6 := Lib.hid (X5.out.below b6)
        have N6 := Lib.hid (show Names10 w1 v5 (done ++ [y0]) w6 from ⟨own_below NN.out.1 b6, below_step NN.out.2 b6⟩)
        have z61 : w6.cell? ⟨wr.heap.size, 1, none⟩ = some (.bool true) := X6.out.cell 1 _ rfl
        have z63 : w6.cell? ⟨wr.heap.size, 3, none⟩ = some (.string y3) := X6.out.cell 3 _ rfl
        clear b6 z1 z2 z3 X5 NN
        cases t3 with
        | false =>
         have HF := Lib.hid (show R = false by rw [HST.out]; rfl)
         go_wp2_with fail
         refine (Calls.mono (ET.out _)) ?_
         rintro e w7 ⟨rfl, b7⟩
         have B7 := Lib.hid (below_step B6.out b7)
         clear b7
         go_wp2
         go_ret
         exact ⟨ArgI.ret_b HF.out.symm, B7.out⟩
        | true =>
         have HF := Lib.hid (show patsS fx1 (done ++ [y0]) (ps.drop (k + 1)) = R by rw [HST.out]; rfl)
         go_wp2_with fail
         refine (Calls.mono (ET.out _)) ?_
         rintro e w7 ⟨rfl, b7⟩
         have X7 := Lib.hid (X6.out.below b7)
         have N7 := Lib.hid (show Names10 w1 v5 (done ++ [y0]) w7 from ⟨own_below N6.out.1 b7, below_step N6.out.2 b7⟩)
         have z71 : w7.cell? ⟨wr.heap.size, 1, none⟩ = some (.bool true) := X7.out.cell 1 _ rfl
         clear b7 z61 z63 N6
         go_wp2
         go_roundw
         case rel => exact ⟨k + 1, done ++ [y0], by omega, by go_num, HDN, HF, N7.out⟩
         case measure => simp [intOf]; omega
      | false =>
       by_cases e2 : y2.size = 0
       ·rw [decide_eq_true e2] at hse2
        by_cases e3 : y3.size = 0
        ·rw [decide_eq_true e3] at hse3
         have HF := Lib.hid (show patsS fx1 (done ++ [y0]) (ps.drop (k + 1)) = R by rw [HST.out]; simp [e2, e3])
         go_wp2
         go_roundw
         case rel => exact ⟨k + 1, done ++ [y0], by omega, by go_num, HDN, HF, NN.out⟩
         case measure => simp [intOf]; omega
        ·rw [decide_eq_false e3] at hse3
         have HF := Lib.hid (show R = false by rw [HST.out]; simp [e3])
         go_wp2
         go_ret
         exact ⟨ArgI.ret_b HF.out.symm, B5.out⟩
       ·rw [decide_eq_false e2] at hse2
        have HF := Lib.hid (show R = false by rw [HST.out]; simp [e2])
        go_wp2
        go_ret
        exact ⟨ArgI.ret_b HF.out.symm, B5.out⟩
  ·obtain rfl : k = ps.length := by omega
   have HF := Lib.hid (show R = true by rw [← HAL.out, List.drop_length]; rfl)
   go_wp2
   go_ret
   exact ⟨ArgI.ret_b HF.out.symm, BW.out⟩
end ProgS
end Go.Proofs.YtbbllkhmenpnlaaGreat

/-
  Programs: validity of rules, of the model (made by tools/s10w.py): a call.
-/
namespace Go.Proofs.YtbbllkhmenpnlaaGreat
open Go.RowKit
namespace ProgS
open RowK Mem ProgM ProgI
set_option maxHeartbeats 8000000 in
set_option maxRecDepth 100000 in
theorem callOk (A B : Option Addr) (m c d : Nat) (fs : List FunctionT) (z0 z1 : ByteArray) (A2 : Option Addr) (c2 : Nat) (x2 : List ArgT) (N : Option Addr) (cn : Nat) (sc : List ByteArray) (w : World)
  (hA : ArgS fn w A fs.length c fs) (hl : fs.length + szs szFunctionU fs ≤ 10000000) (h2 : ArgS Mem.arg w A2 x2.length c2 x2) (hlc : szCallU (z0, z1, x2) ≤ 10000000) (hs : StrK.SRow w N sc) (hl2 : sc.length ≤ 100000000) :
  Calls Tryz.prog 102 #[.agg #[.slice A fs.length c, .slice B m d], .agg #[.string z0, .string z1, .slice A2 x2.length c2], .slice N sc.length cn] w fun e w' => e = .returned (.bool (callV fs (z0, z1, x2) sc)) ∧ Below w.heap.size w w' := by
 have b0 : Below w.heap.size w ((w.alloc (Obj.cells #[Value.slice A fs.length c, Value.slice B m d] 27)).alloc (Obj.cells #[Value.string z0, Value.string z1, Value.slice A2 x2.length c2] 112)) := ((Below.refl _ _).alloc (Nat.le_refl _) _).alloc (by simp) _
 have B0 := Lib.hid b0
 have V0 := Lvar.new (w.alloc (Obj.cells #[Value.slice A fs.length c, Value.slice B m d] 27)) #[Value.string z0, Value.string z1, Value.slice A2 x2.length c2] 112
 simp only [World.size_alloc] at V0
 have V0 := Lib.hid V0
 have FF := Lib.hid (find A B m c d fs z1 _ (hA.below b0) (by omega))
 have HS := Lib.hid hs
 have H2 := Lib.hid h2
 have HFS := Lib.hid (find_small (nm := z1) hl)
 simp only [szCallU] at hlc
 have HLC := Lib.hid hlc
 have hxl : x2.length ≤ 10000000 := by omega
 have EH := Lib.hid (fun W => intName z0 (by omega) W)
 have EL := Lib.hid (fun W => NameS.specList z0 W (by unfold maxLen; omega))
 have HO := Lib.hid (show callV fs (z0, z1, x2) sc = ((findF fs z1).isSome && callF ((findF fs z1).getD zeroF) (z0, z1, x2) sc) from rfl)
 generalize callV fs (z0, z1, x2) sc = R at *
 clear hA h2 b0 hl hs hlc
 go_enter Tryz.func102, Tryz.ntmps102
 go_wp2_with fail
 refine (Calls.mono FF.out) ?_
 rintro e w1 ⟨D1, d1, D3, d3, rfl, o1, b1⟩
 have B1 := Lib.hid (below_step B0.out b1)
 have V1 := Lib.hid (V0.out.below b1)
 have O1 := Lib.hid o1
 have hz := b1.size
 simp only [World.size_alloc] at hz
 clear o1 b1
 cases hF : findF fs z1 with
 | none =>
  have HR := Lib.hid (show R = false by rw [HO.out, hF]; rfl)
  have FIN := Lib.hid (B1.out.alloc B1.out.size (Obj.cells #[Value.string ByteArray.empty, Value.slice D1 0 d1, Value.bool false, Value.slice D3 0 d3] 98))
  simp only [Option.getD_none, Option.isSome_none, zeroF, List.length_nil]
  clear hF HO
  go_wp2
  go_ret
  exact ⟨ArgI.ret_b HR.out.symm, FIN.out⟩
 | some f =>
  rw [hF] at HO HFS
  obtain ⟨fz0, fx1, fz2, fx3⟩ := f
  have O2 := O1.out
  rw [hF] at O2
  have O2 := Lib.hid (OwnR.arg (show OwnR fn _ w1.heap.size w1 [.string fz0, .slice D1 fx1.length d1, .bool fz2, .slice D3 fx3.length d3] (fz0, fx1, fz2, fx3) from O2))
  have hfz : szFunctionU (fz0, fx1, fz2, fx3) ≤ 10000000 := HFS.out
  simp only [szFunctionU] at hfz
  have hfx : fx1.length ≤ 10000000 := by omega
  have HFZ := Lib.hid (show szs szStr fx1 ≤ 10000000 by omega)
  have HO := Lib.hid (show R = (NameM.validName z0 && ((NameM.listName z0 == fz2) && (decide (x2.length = fx1.length) && argsV sc x2 fx1))) by rw [HO.out]; rfl)
  simp only [Option.getD_some, Option.isSome_some]
  clear hF O1 HFS hfz
  have V2 := Lib.hid (V1.out.alloc (Obj.cells #[Value.string fz0, Value.slice D1 fx1.length d1, Value.bool fz2, Value.slice D3 fx3.length d3] 98))
  have L2 := Lib.hid (Lvar.new w1 #[Value.string fz0, Value.slice D1 fx1.length d1, Value.bool fz2, Value.slice D3 fx3.length d3] 98)
  have B2 := Lib.hid (B1.out.alloc B1.out.size (Obj.cells #[Value.string fz0, Value.slice D1 fx1.length d1, Value.bool fz2, Value.slice D3 fx3.length d3] 98))
  have O3 := Lib.hid ((arg_fn O2.out).1.below ((Below.refl w1.heap.size w1).alloc (Nat.le_refl _) (Obj.cells #[Value.string fz0, Value.slice D1 fx1.length d1, Value.bool fz2, Value.slice D3 fx3.length d3] 98)))
  have hzw : w1.heap.size + 1 ≤ (w1.alloc (Obj.cells #[Value.string fz0, Value.slice D1 fx1.length d1, Value.bool fz2, Value.slice D3 fx3.length d3] 98)).heap.size := by simp
  clear O2 V1 V0 FF
  have HNM := Lib.hid (show (NameM.validName z0 && (NameM.listName z0 == fz2)) = (if fz2 then NameM.listName z0 else ArgM.intName z0) from by
   have hle : NameM.listName z0 = (NameM.validName z0 && z0.data.toList.getLast? == some 115) := rfl
   unfold ArgM.intName
   rw [hle]
   cases fz2 <;> cases NameM.validName z0 <;> cases (z0.data.toList.getLast? == some 115) <;> rfl)
  have HO := Lib.hid (show R = (decide (x2.length = fx1.length) && ((if fz2 then NameM.listName z0 else ArgM.intName z0) && argsV sc x2 fx1)) by
   rw [HO.out, ← HNM.out]
   cases NameM.validName z0 <;> cases (NameM.listName z0 == fz2) <;> cases decide (x2.length = fx1.length) <;> simp)
  go_upto_region 2 with fail
  generalize w1.alloc (Obj.cells #[Value.string fz0, Value.slice D1 fx1.length d1, Value.bool fz2, Value.slice D3 fx3.length d3] 98) = w2 at *
  have v2_0 : w2.cell? ⟨w.heap.size + 1, 0, none⟩ = some (.string z0) := V2.out.cell 0 _ rfl
  have v2_2 : w2.cell? ⟨w.heap.size + 1, 2, none⟩ = some (.slice A2 x2.length c2) := V2.out.cell 2 _ rfl
  have l2_1 : w2.cell? ⟨w1.heap.size, 1, none⟩ = some (.slice D1 fx1.length d1) := L2.out.cell 1 _ rfl
  have l2_2 : w2.cell? ⟨w1.heap.size, 2, none⟩ = some (.bool fz2) := L2.out.cell 2 _ rfl
  clear HNM
  by_cases hln : x2.length = fx1.length
  ·have HO := Lib.hid (show R = ((if fz2 then NameM.listName z0 else ArgM.intName z0) && argsV sc x2 fx1) by rw [HO.out, decide_eq_true hln]; rfl)
   have HLE := Lib.hid hln
   have hne : ((x2.length : Int) != (fx1.length : Int)) = false := by rw [hln]; simp
   clear hln
   generalize NameM.listName z0 = tl at *
   generalize ArgM.intName z0 = tv at *
   cases fz2
   case false =>
    cases tv with
    | false =>
     have HF := Lib.hid (show R = false by rw [HO.out]; rfl)
     go_wp2_with fail
     refine (Calls.mono (EH.out _)) ?_
     rintro e w3 ⟨rfl, b3⟩
     have B3 := Lib.hid (below_step B2.out b3)
     have L3 := Lib.hid (L2.out.below b3)
     have l3_2 : w3.cell? ⟨w1.heap.size, 2, none⟩ = some (.bool false) := L3.out.cell 2 _ rfl
     clear b3
     go_wp2
     go_ret
     exact ⟨ArgI.ret_b HF.out.symm, B3.out⟩
    | true =>
     have HO := Lib.hid (show R = argsV sc x2 fx1 by rw [HO.out]; rfl)
     go_wp2_with fail
     refine (Calls.mono (EH.out _)) ?_
     rintro e w4 ⟨rfl, b4⟩
     have B4 := Lib.hid (below_step B2.out b4)
     have V4 := Lib.hid (V2.out.below b4)
     have L4 := Lib.hid (L2.out.below b4)
     have O5 := Lib.hid (O3.out.below b4)
     have v4_0 : w4.cell? ⟨w.heap.size + 1, 0, none⟩ = some (.string z0) := V4.out.cell 0 _ rfl
     have l4_2 : w4.cell? ⟨w1.heap.size, 2, none⟩ = some (.bool false) := L4.out.cell 2 _ rfl
     clear b4 v2_0 v2_2 l2_1 l2_2 V2 L2 O3 B2
     go_wp2
     go_loopw [9] (fun i wr => ∃ k : Nat, k ≤ x2.length ∧ i = .int .i64 k ∧ Hid (argsV sc (x2.drop k) (fx1.drop k) = R) ∧ Below w4.heap.size w4 wr) (fun i _ => x2.length - (intOf i).toNat)
     case atStart => exact ⟨0, Nat.zero_le _, rfl, Lib.hid HO.out.symm, Below.refl _ _⟩
     case round =>
      obtain ⟨k, hk, rfl, hall, hb⟩ := hrel
      have HAL := Lib.hid hall.out
      have HB := Lib.hid hb
      clear hall hb v4_0 l4_2
      have bw : Below w.heap.size w wr := B4.out.trans (HB.out.mono B4.out.size)
      have BW := Lib.hid bw
      have VW := Lib.hid (V4.out.below HB.out)
      have LW := Lib.hid (L4.out.below HB.out)
      have vw2 : wr.cell? ⟨w.heap.size + 1, 2, none⟩ = some (.slice A2 x2.length c2) := VW.out.cell 2 _ rfl
      by_cases hlt : k < x2.length
      ·have hlt2 : k < fx1.length := by have := HLE.out; omega
       obtain ⟨b1, o1, X1, e1, rfl, hbb1, g0, g1, g2, r1⟩ := (H2.out.below bw).arg_at hlt
       obtain ⟨b2, o2, rfl, hbb2, g3⟩ := str_at10 (O5.out.below HB.out) hlt2
       have hsz : szArgU x2[k] ≤ 10000000 := by
        have h9 := szs_mem (sz := szArgU) (List.getElem_mem hlt)
        have := HLC.out
        omega
       have hss := str_le hlt2 HFZ.out
       have HST := Lib.hid (argsV_step (sc := sc) hlt hlt2)
       have lw1 : wr.cell? ⟨w1.heap.size, 1, none⟩ = some (.slice (some ⟨b2, o2, none⟩) x2.length d1) := by
        rw [HLE.out]; exact LW.out.cell 1 _ rfl
       generalize x2[k] = x at *
       generalize fx1[k] = y at *
       obtain ⟨q0, q1, q2⟩ := x
       simp only at g0 g1 g2 r1
       have EN := Lib.hid (fun W => NameS.specList y W (by unfold maxLen; omega))
       have EA := Lib.hid (fun W (h : Below wr.heap.size wr W) l => argOk q0 X1 e1 q1 q2 l N cn sc W (r1.below h) hsz (HS.out.below (below_step bw h)) hl2)
       have hi0 : (0 : Int) ≤ (k : Int) := by omega
       have hi1 : (k : Int) < (x2.length : Int) := by omega
       have KS := Lib.hid (fun W (h : Below wr.heap.size wr W) => (show W.cell? ⟨w.heap.size + 1, 2, none⟩ = some (Value.slice (some ⟨b1, o1, none⟩) x2.length c2) ∧ W.cell? ⟨w1.heap.size, 1, none⟩ = some (Value.slice (some ⟨b2, o2, none⟩) x2.length d1) ∧ W.cell? ⟨b1, o1 + k * 3, none⟩ = some (Value.bool q0) ∧ W.cell? ⟨b1, o1 + k * 3 + 1, none⟩ = some (Value.slice X1 q1.length e1) ∧ W.cell? ⟨b1, o1 + k * 3 + 2, none⟩ = some (Value.string q2) ∧ W.cell? ⟨b2, o2 + k, none⟩ = some (Value.string y) from
        ⟨(VW.out.below h).cell 2 _ rfl, (h.cell (p := ⟨w1.heap.size, 1, none⟩) LW.out.lt).trans lw1, (h.cell (p := ⟨b1, o1 + k * 3, none⟩) hbb1).trans g0, (h.cell (p := ⟨b1, o1 + k * 3 + 1, none⟩) hbb1).trans g1, (h.cell (p := ⟨b1, o1 + k * 3 + 2, none⟩) hbb1).trans g2, (h.cell (p := ⟨b2, o2 + k, none⟩) hbb2).trans g3⟩))
       have D2 := Lib.hid (Below.refl wr.heap.size wr).drew
       have D2r := Lib.hid (Below.refl wr.heap.size wr)
       clear r1 hsz hss bw
       generalize NameM.listName y = ty at *
       have EA2 := Lib.hid (fun W (h : Below wr.heap.size wr W) => EA.out W h ty)
       generalize argIn (q0, q1, q2) ty sc = ta at *
       cases ta
       case false =>
        have HF := Lib.hid (show R = false by rw [← HAL.out, HST.out]; rfl)
        go_wp2_with fail
        go_region_held3 (fun w' => w'.cell? ⟨w.heap.size + 1, 2, none⟩ = some (Value.slice (some ⟨b1, o1, none⟩) x2.length c2) ∧ w'.cell? ⟨w1.heap.size, 1, none⟩ = some (Value.slice (some ⟨b2, o2, none⟩) x2.length d1) ∧ w'.cell? ⟨b1, o1 + k * 3, none⟩ = some (Value.bool q0) ∧ w'.cell? ⟨b1, o1 + k * 3 + 1, none⟩ = some (Value.slice X1 q1.length e1) ∧ w'.cell? ⟨b1, o1 + k * 3 + 2, none⟩ = some (Value.string q2) ∧ w'.cell? ⟨b2, o2 + k, none⟩ = some (Value.string y))
         (first | with_reducible exact KS.out _ D4.out | with_reducible exact KS.out _ D3.out | with_reducible exact KS.out _ D2.out | with_reducible exact KS.out _ D2r.out | go_keep)
         (first | (go_at_call 137; (with_reducible refine (Calls.mono (EN.out _)) ?_); rintro e wy ⟨rfl, b3⟩; (have D3 := Lib.hid (show Below wr.heap.size wr wy from by first | exact below_step D2.out b3 | exact b3)); clear b3) | (go_at_call 103; (with_reducible refine (Calls.mono (EA2.out _ (by first | exact D3.out | exact D3.out.drew))) ?_); rintro e wz ⟨rfl, b4⟩; (have D4 := Lib.hid (show Below wr.heap.size wr wz from by first | exact below_step D3.out b4 | exact below_step D3.out.drew b4)); clear b4))
        all_goals
         have B7 := Lib.hid (show Below w.heap.size w _ from below_step BW.out D4.out)
         go_wp2
         go_ret
         exact ⟨ArgI.ret_b HF.out.symm, by first | exact B7.out | exact B7.out.drew⟩
       case true =>
        have HF := Lib.hid (show argsV sc (x2.drop (k + 1)) (fx1.drop (k + 1)) = R by rw [← HAL.out, HST.out]; rfl)
        go_wp2_with fail
        go_region_held3 (fun w' => w'.cell? ⟨w.heap.size + 1, 2, none⟩ = some (Value.slice (some ⟨b1, o1, none⟩) x2.length c2) ∧ w'.cell? ⟨w1.heap.size, 1, none⟩ = some (Value.slice (some ⟨b2, o2, none⟩) x2.length d1) ∧ w'.cell? ⟨b1, o1 + k * 3, none⟩ = some (Value.bool q0) ∧ w'.cell? ⟨b1, o1 + k * 3 + 1, none⟩ = some (Value.slice X1 q1.length e1) ∧ w'.cell? ⟨b1, o1 + k * 3 + 2, none⟩ = some (Value.string q2) ∧ w'.cell? ⟨b2, o2 + k, none⟩ = some (Value.string y))
         (first | with_reducible exact KS.out _ D4.out | with_reducible exact KS.out _ D3.out | with_reducible exact KS.out _ D2.out | with_reducible exact KS.out _ D2r.out | go_keep)
         (first | (go_at_call 137; (with_reducible refine (Calls.mono (EN.out _)) ?_); rintro e wy ⟨rfl, b3⟩; (have D3 := Lib.hid (show Below wr.heap.size wr wy from by first | exact below_step D2.out b3 | exact b3)); clear b3) | (go_at_call 103; (with_reducible refine (Calls.mono (EA2.out _ (by first | exact D3.out | exact D3.out.drew))) ?_); rintro e wz ⟨rfl, b4⟩; (have D4 := Lib.hid (show Below wr.heap.size wr wz from by first | exact below_step D3.out b4 | exact below_step D3.out.drew b4)); clear b4))
        all_goals
         have B7 := Lib.hid (show Below w4.heap.size w4 _ from below_step HB.out D4.out)
         go_wp2
         go_roundw
         case rel => exact ⟨k + 1, by omega, by go_num, HF, by first | exact B7.out | exact B7.out.drew⟩
         case measure => simp [intOf]; omega
      ·obtain rfl : k = x2.length := by omega
       have HF := Lib.hid (show R = true by rw [← HAL.out]; exact argsV_end)
       go_wp2
       go_ret
       exact ⟨ArgI.ret_b HF.out.symm, BW.out⟩
   case true =>
    cases tl with
    | false =>
     have HF := Lib.hid (show R = false by rw [HO.out]; rfl)
     go_wp2_with fail
     refine (Calls.mono (EL.out _)) ?_
     rintro e w3 ⟨rfl, b3⟩
     have B3 := Lib.hid (below_step B2.out b3)
     have L3 := Lib.hid (L2.out.below b3)
     have l3_2 : w3.cell? ⟨w1.heap.size, 2, none⟩ = some (.bool true) := L3.out.cell 2 _ rfl
     clear b3
     go_wp2
     go_ret
     exact ⟨ArgI.ret_b HF.out.symm, B3.out⟩
    | true =>
     have HO := Lib.hid (show R = argsV sc x2 fx1 by rw [HO.out]; rfl)
     go_wp2_with fail
     refine (Calls.mono (EL.out _)) ?_
     rintro e w4 ⟨rfl, b4⟩
     have B4 := Lib.hid (below_step B2.out b4)
     have V4 := Lib.hid (V2.out.below b4)
     have L4 := Lib.hid (L2.out.below b4)
     have O5 := Lib.hid (O3.out.below b4)
     have v4_0 : w4.cell? ⟨w.heap.size + 1, 0, none⟩ = some (.string z0) := V4.out.cell 0 _ rfl
     have l4_2 : w4.cell? ⟨w1.heap.size, 2, none⟩ = some (.bool true) := L4.out.cell 2 _ rfl
     clear b4 v2_0 v2_2 l2_1 l2_2 V2 L2 O3 B2
     go_wp2
     go_loopw [9] (fun i wr => ∃ k : Nat, k ≤ x2.length ∧ i = .int .i64 k ∧ Hid (argsV sc (x2.drop k) (fx1.drop k) = R) ∧ Below w4.heap.size w4 wr) (fun i _ => x2.length - (intOf i).toNat)
     case atStart => exact ⟨0, Nat.zero_le _, rfl, Lib.hid HO.out.symm, Below.refl _ _⟩
     case round =>
      obtain ⟨k, hk, rfl, hall, hb⟩ := hrel
      have HAL := Lib.hid hall.out
      have HB := Lib.hid hb
      clear hall hb v4_0 l4_2
      have bw : Below w.heap.size w wr := B4.out.trans (HB.out.mono B4.out.size)
      have BW := Lib.hid bw
      have VW := Lib.hid (V4.out.below HB.out)
      have LW := Lib.hid (L4.out.below HB.out)
      have vw2 : wr.cell? ⟨w.heap.size + 1, 2, none⟩ = some (.slice A2 x2.length c2) := VW.out.cell 2 _ rfl
      by_cases hlt : k < x2.length
      ·have hlt2 : k < fx1.length := by have := HLE.out; omega
       obtain ⟨b1, o1, X1, e1, rfl, hbb1, g0, g1, g2, r1⟩ := (H2.out.below bw).arg_at hlt
       obtain ⟨b2, o2, rfl, hbb2, g3⟩ := str_at10 (O5.out.below HB.out) hlt2
       have hsz : szArgU x2[k] ≤ 10000000 := by
        have h9 := szs_mem (sz := szArgU) (List.getElem_mem hlt)
        have := HLC.out
        omega
       have hss := str_le hlt2 HFZ.out
       have HST := Lib.hid (argsV_step (sc := sc) hlt hlt2)
       have lw1 : wr.cell? ⟨w1.heap.size, 1, none⟩ = some (.slice (some ⟨b2, o2, none⟩) x2.length d1) := by
        rw [HLE.out]; exact LW.out.cell 1 _ rfl
       generalize x2[k] = x at *
       generalize fx1[k] = y at *
       obtain ⟨q0, q1, q2⟩ := x
       simp only at g0 g1 g2 r1
       have EN := Lib.hid (fun W => NameS.specList y W (by unfold maxLen; omega))
       have EA := Lib.hid (fun W (h : Below wr.heap.size wr W) l => argOk q0 X1 e1 q1 q2 l N cn sc W (r1.below h) hsz (HS.out.below (below_step bw h)) hl2)
       have hi0 : (0 : Int) ≤ (k : Int) := by omega
       have hi1 : (k : Int) < (x2.length : Int) := by omega
       have KS := Lib.hid (fun W (h : Below wr.heap.size wr W) => (show W.cell? ⟨w.heap.size + 1, 2, none⟩ = some (Value.slice (some ⟨b1, o1, none⟩) x2.length c2) ∧ W.cell? ⟨w1.heap.size, 1, none⟩ = some (Value.slice (some ⟨b2, o2, none⟩) x2.length d1) ∧ W.cell? ⟨b1, o1 + k * 3, none⟩ = some (Value.bool q0) ∧ W.cell? ⟨b1, o1 + k * 3 + 1, none⟩ = some (Value.slice X1 q1.length e1) ∧ W.cell? ⟨b1, o1 + k * 3 + 2, none⟩ = some (Value.string q2) ∧ W.cell? ⟨b2, o2 + k, none⟩ = some (Value.string y) from
        ⟨(VW.out.below h).cell 2 _ rfl, (h.cell (p := ⟨w1.heap.size, 1, none⟩) LW.out.lt).trans lw1, (h.cell (p := ⟨b1, o1 + k * 3, none⟩) hbb1).trans g0, (h.cell (p := ⟨b1, o1 + k * 3 + 1, none⟩) hbb1).trans g1, (h.cell (p := ⟨b1, o1 + k * 3 + 2, none⟩) hbb1).trans g2, (h.cell (p := ⟨b2, o2 + k, none⟩) hbb2).trans g3⟩))
       have D2 := Lib.hid (Below.refl wr.heap.size wr).drew
       have D2r := Lib.hid (Below.refl wr.heap.size wr)
       clear r1 hsz hss bw
       generalize NameM.listName y = ty at *
       have EA2 := Lib.hid (fun W (h : Below wr.heap.size wr W) => EA.out W h ty)
       generalize argIn (q0, q1, q2) ty sc = ta at *
       cases ta
       case false =>
        have HF := Lib.hid (show R = false by rw [← HAL.out, HST.out]; rfl)
        go_wp2_with fail
        go_region_held3 (fun w' => w'.cell? ⟨w.heap.size + 1, 2, none⟩ = some (Value.slice (some ⟨b1, o1, none⟩) x2.length c2) ∧ w'.cell? ⟨w1.heap.size, 1, none⟩ = some (Value.slice (some ⟨b2, o2, none⟩) x2.length d1) ∧ w'.cell? ⟨b1, o1 + k * 3, none⟩ = some (Value.bool q0) ∧ w'.cell? ⟨b1, o1 + k * 3 + 1, none⟩ = some (Value.slice X1 q1.length e1) ∧ w'.cell? ⟨b1, o1 + k * 3 + 2, none⟩ = some (Value.string q2) ∧ w'.cell? ⟨b2, o2 + k, none⟩ = some (Value.string y))
         (first | with_reducible exact KS.out _ D4.out | with_reducible exact KS.out _ D3.out | with_reducible exact KS.out _ D2.out | with_reducible exact KS.out _ D2r.out | go_keep)
         (first | (go_at_call 137; (with_reducible refine (Calls.mono (EN.out _)) ?_); rintro e wy ⟨rfl, b3⟩; (have D3 := Lib.hid (show Below wr.heap.size wr wy from by first | exact below_step D2.out b3 | exact b3)); clear b3) | (go_at_call 103; (with_reducible refine (Calls.mono (EA2.out _ (by first | exact D3.out | exact D3.out.drew))) ?_); rintro e wz ⟨rfl, b4⟩; (have D4 := Lib.hid (show Below wr.heap.size wr wz from by first | exact below_step D3.out b4 | exact below_step D3.out.drew b4)); clear b4))
        all_goals
         have B7 := Lib.hid (show Below w.heap.size w _ from below_step BW.out D4.out)
         go_wp2
         go_ret
         exact ⟨ArgI.ret_b HF.out.symm, by first | exact B7.out | exact B7.out.drew⟩
       case true =>
        have HF := Lib.hid (show argsV sc (x2.drop (k + 1)) (fx1.drop (k + 1)) = R by rw [← HAL.out, HST.out]; rfl)
        go_wp2_with fail
        go_region_held3 (fun w' => w'.cell? ⟨w.heap.size + 1, 2, none⟩ = some (Value.slice (some ⟨b1, o1, none⟩) x2.length c2) ∧ w'.cell? ⟨w1.heap.size, 1, none⟩ = some (Value.slice (some ⟨b2, o2, none⟩) x2.length d1) ∧ w'.cell? ⟨b1, o1 + k * 3, none⟩ = some (Value.bool q0) ∧ w'.cell? ⟨b1, o1 + k * 3 + 1, none⟩ = some (Value.slice X1 q1.length e1) ∧ w'.cell? ⟨b1, o1 + k * 3 + 2, none⟩ = some (Value.string q2) ∧ w'.cell? ⟨b2, o2 + k, none⟩ = some (Value.string y))
         (first | with_reducible exact KS.out _ D4.out | with_reducible exact KS.out _ D3.out | with_reducible exact KS.out _ D2.out | with_reducible exact KS.out _ D2r.out | go_keep)
         (first | (go_at_call 137; (with_reducible refine (Calls.mono (EN.out _)) ?_); rintro e wy ⟨rfl, b3⟩; (have D3 := Lib.hid (show Below wr.heap.size wr wy from by first | exact below_step D2.out b3 | exact b3)); clear b3) | (go_at_call 103; (with_reducible refine (Calls.mono (EA2.out _ (by first | exact D3.out | exact D3.out.drew))) ?_); rintro e wz ⟨rfl, b4⟩; (have D4 := Lib.hid (show Below wr.heap.size wr wz from by first | exact below_step D3.out b4 | exact below_step D3.out.drew b4)); clear b4))
        all_goals
         have B7 := Lib.hid (show Below w4.heap.size w4 _ from below_step HB.out D4.out)
         go_wp2
         go_roundw
         case rel => exact ⟨k + 1, by omega, by go_num, HF, by first | exact B7.out | exact B7.out.drew⟩
         case measure => simp [intOf]; omega
      ·obtain rfl : k = x2.length := by omega
       have HF := Lib.hid (show R = true by rw [← HAL.out]; exact argsV_end)
       go_wp2
       go_ret
       exact ⟨ArgI.ret_b HF.out.symm, BW.out⟩
  ·have hne : ((x2.length : Int) != (fx1.length : Int)) = true := by simp; omega
   have HF := Lib.hid (show R = false by rw [HO.out, decide_eq_false hln]; rfl)
   go_wp2
   go_ret
   exact ⟨ArgI.ret_b HF.out.symm, B2.out⟩
end ProgS
end Go.Proofs.YtbbllkhmenpnlaaGreat
