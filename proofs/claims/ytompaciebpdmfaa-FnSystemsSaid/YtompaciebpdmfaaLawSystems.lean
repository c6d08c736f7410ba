import Derived.Test.YtompaciebpdmfaaRows
import Derived.Test.YtompaciebpdmfaaFrame
import Derived.Test.YtompaciebpdmfaaFrameCode
import Derived.Test.YtompaciebpdmfaaLinImpl4
import Derived.Test.YtompaciebpdmfaaLinSpec
import Derived.Test.YtompaciebpdmfaaSysAdd
import Derived.Test.YtompaciebpdmfaaSysAddI
import Derived.Test.YtompaciebpdmfaaSysImpl
import Derived.Test.YtompaciebpdmfaaSysImpl2
import Derived.Test.YtompaciebpdmfaaSysImpl3
import Derived.Test.YtompaciebpdmfaaDraw6d
import Derived.Test.YtompaciebpdmfaaLawKit4
import Derived.OwnWalk
import Derived.Deep.RegionHeld3
import Derived.SliceStrings
/- At every code, the row that is added to the system drawn from it must be satisfied beside the other rows, and nothing else changes: the law FnSystems returns true. There is no condition. -/
namespace Go.Proofs.Ytompaciebpdmfaa
open Go.ChangeShapes Go.WideShapes Go.ChangeAt Go.RowKit
open Go.ChangeMaps (open_string shut_string)
namespace LawSystems
theorem modelSat (lo hi : Nat) (n : Int) (A B : Option Addr) (c d : Nat) (xs : List (Int × List Int)) (us : List Int) (w : World) (hA : SysK.Arg w A xs.length c xs) (hl : Mem.linsSize xs ≤ 1000000000) (hB : RowK.Row lo hi w B (IntK.iv us)) (hl2 : us.length ≤ 1000000000) :
    Calls Try.prog 19 #[.agg #[.int .i64 n, .slice A xs.length c], .slice B us.length d] w fun e w' => e = .returned (.bool (SysS.satB n xs us)) ∧ Below w.heap.size w w' := by
  obtain ⟨q, fp, h⟩ := hA
  exact SysS.satisfies q fp lo hi n A B c d xs us w h hl hB hl2

open RowK LinM Mem
theorem own_empty {w w' : World} (hb : Below (w.heap.size + 1) (w.alloc (.cells #[] 3)) w') (hs : (w.alloc (.cells #[] 3)).heap.size ≤ w'.heap.size) : w'.ownsRow w.heap.size 3 1 (.slice (some ⟨w.heap.size, 0, none⟩) 0 0) 0 [] :=
  ⟨by simp, Or.inr ⟨_, 0, #[], rfl, Nat.le_refl _, by rw [hb.block _ (Nat.lt_succ_self _)]; exact heap_alloc_new _ _, by simp, by simp, by simp, by simp⟩⟩
theorem addL_size (n : Int) (xs : List (Int × List Int)) (x : Int × List Int) (h : linsSize xs + 1 + x.2.length ≤ 1000000000) : linsSize (SysS.addL n xs x) ≤ 1000000000 := by
  unfold SysS.addL
  split
  · rw [SysS.linsSize_snoc]; exact h
  · omega
theorem addL_no {n : Int} {xs : List (Int × List Int)} {x : Int × List Int} (h : SysS.addB n xs x = false) : SysS.addL n xs x = xs := if_neg (by rw [h]; simp)
/-- An added row must be satisfied. -/
theorem addL_sat {n : Int} {xs : List (Int × List Int)} {z : Int} {zs : List Int} (h : SysS.addB n xs (z, zs) = true) (vs : List Int) : SysS.satB n (SysS.addL n xs (z, zs)) vs = (SysS.satB n xs vs && decide (0 ≤ (evalL z zs vs).getD 0)) := by
  rw [show SysS.addL n xs (z, zs) = xs ++ [(z, zs)] from if_pos h]
  unfold SysS.addB at h
  rw [Bool.and_eq_true] at h
  unfold SysS.satB
  rw [h.1, h.2]
  simp [List.all_append, Bool.and_assoc]
theorem addL_cnt {n : Int} {xs : List (Int × List Int)} {x : Int × List Int} (h : SysS.addB n xs x = true) : 0 ≤ n ∧ n ≤ 8 := by
  unfold SysS.addB SysS.sysV at h
  simp only [Bool.and_eq_true] at h
  exact cntB_iff.1 h.1.2.1
theorem any6_size {N : Int} {xs : List (Int × List Int)} (h : Draw.Any6 N xs) : linsSize xs ≤ 1000 := by
  have h1 := Draw.linsSize_le (m := 9) h.2.2
  have := h.2.1
  omega

set_option maxHeartbeats 4000000 in
set_option maxRecDepth 100000 in
theorem walk (A : Option Addr) (n c : Nat) (w0 : World) (hc : Draw.Code w0 A n) :
    Calls Try.prog 3 #[.slice A n c] w0 fun e w' => e = .returned (.bool true) ∧ Below w0.heap.size w0 w' := by
  by_cases hn : n ≤ 1048576
  · skip
    have B0 := Lib.hid (Below.refl w0.heap.size w0)
    go_enter Try.func3, Try.ntmps3
    go_wp2_with fail
    refine (Draw.small A n c hn _).mono ?_
    rintro e w' ⟨rfl, rfl⟩
    go_wp2_with fail
    refine (Calls.mono (Draw.drawAddRow A n c hn _ hc)) ?_
    rintro e w1 ⟨N, B, d, xs, z, zs, C, f, lo, hi, rfl, hP, hzl, rB, rC, b1⟩
    have HC_1 := Lib.hid (hc.keep b1)
    have hs1 : w0.heap.size ≤ w1.heap.size := b1.size
    have d1 : Below w0.heap.size w0 w1 := (Below.refl w0.heap.size w0).trans (b1.mono (show w0.heap.size ≤ w0.heap.size by first | exact Nat.le_refl _ | (simp; done) | (simp; omega)))
    have B1 := Lib.hid (B0.out.trans (d1.mono B0.out.size))
    clear b1 d1
    have RB_1 := Lib.hid rB
    have RC_1 := Lib.hid rC
    clear rB rC
    have hsz := any6_size hP
    have hadd : linsSize xs + 1 + zs.length ≤ 1000000000 := by omega
    have hxs : linsSize xs ≤ 1000000000 := by omega
    have IM := fun A c Al cl lo hi W (h : SysK.Arg W A xs.length c xs) (h' : Row lo hi W Al (IntK.iv zs)) => SysI.addRow N A c xs z Al cl zs lo hi W h h' hadd
    have SP := fun A c Al cl lo hi W (h : SysK.Arg W A xs.length c xs) (h' : Row lo hi W Al (IntK.iv zs)) => SysS.addRow N A c xs z Al cl zs lo hi W h h' hadd
    have hnT := addL_size N xs (z, zs) hadd
    have H0 := Lib.hid (fun h => addL_no (n := N) (xs := xs) (x := (z, zs)) h)
    have H1 := Lib.hid (fun h vs => addL_sat (n := N) (xs := xs) (z := z) (zs := zs) h vs)
    have H2 := Lib.hid (fun h => addL_cnt (n := N) (xs := xs) (x := (z, zs)) h)
    unfold SysS.GaveAdd at IM SP
    generalize SysS.addL N xs (z, zs) = T at *
    generalize SysS.addB N xs (z, zs) = q at *
    have IM := Lib.hid IM
    have SP := Lib.hid SP
    clear hP hadd
    go_wp2_with fail
    refine (Calls.mono (IM.out B d C f _ _ _ (RB_1.out.below (((Below.refl w1.heap.size w1).alloc (by first | (simp; done) | (simp; omega)) (Obj.cells #[Value.int .i64 N, Value.slice B xs.length d] 26)).alloc (by first | (simp; done) | (simp; omega)) (Obj.cells #[Value.int .i64 z, Value.slice C zs.length f] 29))) (RC_1.out.below (((Below.refl w1.heap.size w1).alloc (by first | (simp; done) | (simp; omega)) (Obj.cells #[Value.int .i64 N, Value.slice B xs.length d] 26)).alloc (by first | (simp; done) | (simp; omega)) (Obj.cells #[Value.int .i64 z, Value.slice C zs.length f] 29))))) ?_
    rintro e w2 ⟨G, ct, rfl, ot, b2⟩
    simp only [World.size_alloc] at ot
    have Ot := Lib.hid (show SysK.Own (w1.heap.size + 1 + 1) w2.heap.size w2 G T.length ct T from ot)
    have hs2 : ((w1.alloc (Obj.cells #[Value.int .i64 N, Value.slice B xs.length d] 26)).alloc (Obj.cells #[Value.int .i64 z, Value.slice C zs.length f] 29)).heap.size ≤ w2.heap.size := b2.size
    simp only [World.size_alloc] at hs2
    have d2 : Below w1.heap.size w1 w2 := (((Below.refl w1.heap.size w1).alloc (by first | (simp; done) | (simp; omega)) (Obj.cells #[Value.int .i64 N, Value.slice B xs.length d] 26)).alloc (by first | (simp; done) | (simp; omega)) (Obj.cells #[Value.int .i64 z, Value.slice C zs.length f] 29)).trans (b2.mono (show w1.heap.size ≤ ((w1.alloc (Obj.cells #[Value.int .i64 N, Value.slice B xs.length d] 26)).alloc (Obj.cells #[Value.int .i64 z, Value.slice C zs.length f] 29)).heap.size by first | exact Nat.le_refl _ | (simp; done) | (simp; omega)))
    have B2 := Lib.hid (B1.out.trans (d2.mono B1.out.size))
    have RB_2 := Lib.hid (RB_1.out.below d2)
    have RC_2 := Lib.hid (RC_1.out.below d2)
    have HC_2 := Lib.hid (HC_1.out.keep d2)
    have Va_2 := Lib.hid (((Lvar.new w1 #[Value.int .i64 N, Value.slice B xs.length d] 26).alloc (Obj.cells #[Value.int .i64 z, Value.slice C zs.length f] 29)).below b2)
    have Vb_2 := Lib.hid ((Lvar.new (w1.alloc (Obj.cells #[Value.int .i64 N, Value.slice B xs.length d] 26)) #[Value.int .i64 z, Value.slice C zs.length f] 29).below b2)
    simp only [World.size_alloc] at Vb_2
    clear RB_1 RC_1 HC_1 b2 d2
    clear ot
    have c_Va_0 := Va_2.out.cell 0 _ rfl
    have c_Va_1 := Va_2.out.cell 1 _ rfl
    have lt_Va := Va_2.out.lt
    have c_Vb_0 := Vb_2.out.cell 0 _ rfl
    have c_Vb_1 := Vb_2.out.cell 1 _ rfl
    have lt_Vb := Vb_2.out.lt
    go_wp2_with fail
    refine (Calls.mono (SP.out B d C f _ _ _ (RB_2.out.below ((Below.refl w2.heap.size w2).alloc (by first | (simp; done) | (simp; omega)) (Obj.cells #[Value.int .i64 N, Value.slice G T.length ct] 26))) (RC_2.out.below ((Below.refl w2.heap.size w2).alloc (by first | (simp; done) | (simp; omega)) (Obj.cells #[Value.int .i64 N, Value.slice G T.length ct] 26))))) ?_
    rintro e w3 ⟨D, cu, rfl, ou, b3⟩
    simp only [World.size_alloc] at ou
    have Ou := Lib.hid (show SysK.Own (w2.heap.size + 1) w3.heap.size w3 D T.length cu T from ou)
    have hs3 : (w2.alloc (Obj.cells #[Value.int .i64 N, Value.slice G T.length ct] 26)).heap.size ≤ w3.heap.size := b3.size
    simp only [World.size_alloc] at hs3
    have d3 : Below w2.heap.size w2 w3 := ((Below.refl w2.heap.size w2).alloc (by first | (simp; done) | (simp; omega)) (Obj.cells #[Value.int .i64 N, Value.slice G T.length ct] 26)).trans (b3.mono (show w2.heap.size ≤ (w2.alloc (Obj.cells #[Value.int .i64 N, Value.slice G T.length ct] 26)).heap.size by first | exact Nat.le_refl _ | (simp; done) | (simp; omega)))
    have B3 := Lib.hid (B2.out.trans (d3.mono B2.out.size))
    have RB_3 := Lib.hid (RB_2.out.below d3)
    have RC_3 := Lib.hid (RC_2.out.below d3)
    have HC_3 := Lib.hid (HC_2.out.keep d3)
    have Va_3 := Lib.hid (Va_2.out.below d3)
    have Vb_3 := Lib.hid (Vb_2.out.below d3)
    have Ot_3 := Lib.hid (Ot.out.below d3)
    have Vt_3 := Lib.hid ((Lvar.new w2 #[Value.int .i64 N, Value.slice G T.length ct] 26).below b3)
    clear RB_2 RC_2 HC_2 Va_2 Vb_2 Ot c_Va_0 c_Va_1 lt_Va c_Vb_0 c_Vb_1 lt_Vb b3 d3
    clear ou
    have t3 : Below w3.heap.size w3 (w3.alloc (Obj.cells #[Value.int .i64 N, Value.slice D T.length cu] 26)) := (Below.refl _ _).alloc (Nat.le_refl _) _
    have B4 := Lib.hid (B3.out.trans (t3.mono B3.out.size))
    have RB4 := Lib.hid (RB_3.out.below t3)
    have RC4 := Lib.hid (RC_3.out.below t3)
    have La4 := Lib.hid (Va_3.out.below t3)
    have Lb4 := Lib.hid (Vb_3.out.below t3)
    have Ot4 := Lib.hid (Ot_3.out.below t3)
    have Ou4 := Lib.hid (Ou.out.below t3)
    have Lt4 := Lib.hid (Vt_3.out.below t3)
    have Lu4 := Lib.hid (Lvar.new w3 #[Value.int .i64 N, Value.slice D T.length cu] 26)
    have HC4 := Lib.hid (HC_3.out.keep t3)
    have hp3 : w3.heap.size < (w3.alloc (Obj.cells #[Value.int .i64 N, Value.slice D T.length cu] 26)).heap.size := by simp
    clear t3 B3 RB_3 RC_3 Va_3 Vb_3 Ot_3 Ou Vt_3 HC_3 IM SP B1
    go_wp2_with fail
    generalize (w3.alloc (Obj.cells #[Value.int .i64 N, Value.slice D T.length cu] 26)) = w4 at *
    have EQ := Lib.hid (fun W (h : Below w4.heap.size w4 W) => SysI.equal N N G D ct cu T T W (Ot4.out.below h).arg (Ou4.out.below h).arg hnT hnT)
    rw [show SysS.sysE N N T T = true by simp [SysS.sysE]] at EQ
    have VI := Lib.hid (fun W (h : Below w4.heap.size w4 W) => SysI.valid N B d xs W (RB4.out.below h) hxs)
    have VS := Lib.hid (fun W (h : Below w4.heap.size w4 W) => SysK.valid N B d xs W (RB4.out.below h) hxs)
    generalize SysS.sysV N xs = V at VI VS
    have KS := Lib.hid (fun W (h : Below w4.heap.size w4 W) => (show W.cell? ⟨w2.heap.size, 0, none⟩ = some (Value.int .i64 N) ∧ W.cell? ⟨w2.heap.size, 1, none⟩ = some (Value.slice G T.length ct) ∧ W.cell? ⟨w3.heap.size, 0, none⟩ = some (Value.int .i64 N) ∧ W.cell? ⟨w3.heap.size, 1, none⟩ = some (Value.slice D T.length cu) ∧ W.cell? ⟨w1.heap.size, 0, none⟩ = some (Value.int .i64 N) ∧ W.cell? ⟨w1.heap.size, 1, none⟩ = some (Value.slice B xs.length d) from ⟨(Lt4.out.below h).cell 0 _ rfl, (Lt4.out.below h).cell 1 _ rfl, (Lu4.out.below h).cell 0 _ rfl, (Lu4.out.below h).cell 1 _ rfl, (La4.out.below h).cell 0 _ rfl, (La4.out.below h).cell 1 _ rfl⟩))
    have hks0 := KS.out _ (Below.refl w4.heap.size w4).drew
    obtain ⟨k1, k2, k3, k4, k5, k6⟩ := hks0
    go_region_held3 (fun w' => w'.cell? ⟨w2.heap.size, 0, none⟩ = some (Value.int .i64 N) ∧ w'.cell? ⟨w2.heap.size, 1, none⟩ = some (Value.slice G T.length ct) ∧ w'.cell? ⟨w3.heap.size, 0, none⟩ = some (Value.int .i64 N) ∧ w'.cell? ⟨w3.heap.size, 1, none⟩ = some (Value.slice D T.length cu) ∧ w'.cell? ⟨w1.heap.size, 0, none⟩ = some (Value.int .i64 N) ∧ w'.cell? ⟨w1.heap.size, 1, none⟩ = some (Value.slice B xs.length d))
      (first | exact KS.out _ e3 | exact KS.out _ e2 | exact KS.out _ e1 | exact KS.out _ (Below.refl _ _).drew | go_keep)
      (first
        | (go_at_call 12; refine (Calls.mono (EQ.out _ (Below.refl w4.heap.size w4).drew)) ?_; rintro e w5 ⟨rfl, b5⟩; (have e1 : Below w4.heap.size w4 w5 := (Below.refl w4.heap.size w4).drew.trans b5))
        | (go_at_call 13; refine (Calls.mono (VI.out _ e1)) ?_; rintro e w6 ⟨rfl, b6⟩; (have e2 : Below w4.heap.size w4 w6 := e1.trans (b6.mono e1.size)))
        | (go_at_call 14; refine (Calls.mono (VS.out _ e2)) ?_; rintro e w7 ⟨rfl, b7⟩; (have e3 : Below w4.heap.size w4 w7 := e2.trans (b7.mono e2.size))))
    have hs7 := e3.size
    have B8 := Lib.hid (B4.out.trans (e3.mono B4.out.size))
    have RB8 := Lib.hid (RB4.out.below e3)
    have RC8 := Lib.hid (RC4.out.below e3)
    have La8 := Lib.hid (La4.out.below e3)
    have Lb8 := Lib.hid (Lb4.out.below e3)
    have Ot8 := Lib.hid (Ot4.out.below e3)
    have Lt8 := Lib.hid (Lt4.out.below e3)
    have HC8 := Lib.hid (HC4.out.keep e3)
    clear k1 k2 k3 k4 k5 k6 b5 b6 b7 e1 e2 e3 B4 RB4 RC4 La4 Lb4 Ot4 Ou4 Lt4 Lu4 HC4 EQ VI VS KS
    cases q with
    | false =>
      have hT := H0.out rfl
      subst hT
      have SE := SysK.equal N N G B ct d T T w7 Ot8.out.arg RB8.out hnT hnT
      rw [show SysS.sysE N N T T = true by simp [SysS.sysE]] at SE
      have SE := Lib.hid SE
      have x0 := Lt8.out.cell 0 _ rfl
      have x1 := Lt8.out.cell 1 _ rfl
      have y0 := La8.out.cell 0 _ rfl
      have y1 := La8.out.cell 1 _ rfl
      go_wp2_with fail
      refine (Calls.mono SE.out) ?_
      rintro e w8 ⟨rfl, b8⟩
      have B9 := Lib.hid (B8.out.trans (b8.mono B8.out.size))
      clear b8
      go_wp2
      go_ret
      exact ⟨rfl, B9.out⟩
    | true =>
      obtain ⟨hN0, hN8⟩ := H2.out rfl
      have HS1 := Lib.hid (H1.out rfl)
      obtain ⟨nn, rfl⟩ := Int.eq_ofNat_of_zero_le hN0
      have hn8 : nn ≤ 8 := by omega
      obtain ⟨i0, hi0, hz0, hz1, hz2⟩ := info_parts IntK.intInfo
      have v0 := La8.out.cell 0 (.int .i64 nn) rfl
      have s9 : Below w7.heap.size w7 (w7.alloc (.cells #[] 3)) := (Below.refl _ _).alloc (Nat.le_refl _) _
      have O9 := Lib.hid (own_empty (w := w7) (Below.refl _ _) (Nat.le_refl _))
      clear H0 H1 H2
      go_wp2
      have hs9 : w7.heap.size ≤ (w7.alloc (.cells #[] 3)).heap.size := s9.size
      clear v0
      generalize w7.alloc (.cells #[] 3) = w9 at *
      go_loopw [9, 10] (fun v i wr => ∃ (j : Nat) (vs : List Int), j ≤ nn ∧ i = .int .i64 j ∧ vs.length = j ∧ wr.ownsRow w7.heap.size 3 1 v vs.length (IntK.iv vs) ∧ Below w7.heap.size w7 wr) (fun _ i _ => nn - (intOf i).toNat)
      case atStart => exact ⟨0, [], Nat.zero_le _, rfl, rfl, O9.out, s9⟩
      case round =>
        obtain ⟨j, vs, hj, rfl, hlen, hown, hb⟩ := hrel
        have HO := Lib.hid hown
        have HL := Lib.hid hlen
        have hbase := hb.size
        have VR := Lib.hid (La8.out.below hb)
        have v0 := VR.out.cell 0 (.int .i64 nn) rfl
        have v1 := VR.out.cell 1 (.slice B xs.length d) rfl
        have HB := Lib.hid hb
        clear hown s9 hb
        by_cases hlt : j < nn
        · have hk9 : vs.length ≤ 9 := by omega
          have hk0 : (0 : Int) ≤ (j : Int) := by omega
          have hk1 : (j : Int) < (nn : Int) := by omega
          have AT := Lib.hid (Draw.at0 A n c j hn (by omega) wr (HC8.out.keep HB.out))
          clear hlen
          go_wp2_with fail
          refine (Calls.mono AT.out) ?_
          rintro e w' ⟨x, hx, rfl, rfl⟩
          have hm0 : x.tmod 16 = x % 16 := Int.tmod_eq_emod_of_nonneg hx.1
          have hy : -5 ≤ x % 16 - 5 ∧ x % 16 - 5 ≤ 10 := by omega
          have hw : IntKind.i64.wrap (x % 16 - 5) = x % 16 - 5 := IntWalk.i64_in _ (by omega)
          go_wp2_with (at_builtin; go_loud (refine wpList_append_own _ rfl (.tmp 60) (.tmp 66) 27 rfl w7.heap.size 3 i0 (.int .i64 0) 1 8 Try.underlying27 hi0 hz0 hz1 hz2 rfl (by decide) _ _ _ rfl (HO.out.alloc _) ⟨wr.heap.size, 0, none⟩ 1 1 [.int .i64 (x % 16 - 5)] rfl rfl (cell_one_new _ _ _) (by simp [Value.oneCell']) (by unfold maxLen; omega) (by omega) (by simp <;> omega) ?_); intro v4 w4' hown4 hgrow _)
          have hb4 : Below w7.heap.size w7 w4' := (HB.out.alloc HB.out.size _).grown hgrow (by simp <;> omega) (fun j hj => (HO.out.lt j hj).1)
          have hown5 : w4'.ownsRow w7.heap.size 3 1 v4 (vs ++ [x % 16 - 5]).length (IntK.iv (vs ++ [x % 16 - 5])) := by simpa [IntK.iv] using hown4
          have hl5 : (vs ++ [x % 16 - 5]).length = j + 1 := by have := HL.out; simp; omega
          have V4' := La8.out.below hb4
          have x0 := V4'.cell 0 _ rfl
          have x1 := V4'.cell 1 _ rfl
          clear hown4 hgrow hm0 hw hy V4'
          generalize vs ++ [x % 16 - 5] = vs2 at *
          have HN5 := Lib.hid hl5
          clear hl5
          go_wp2
          go_roundw
          case rel => exact ⟨j + 1, vs2, by omega, by go_num, HN5.out, hown5, hb4⟩
          case measure => simp [intOf]; omega
        · have hk' : vs.length ≤ 1000000000 := by omega
          obtain ⟨A5, c5, e5, r5, f5, _, _⟩ := of_own HO.out
          subst e5
          have hlz : decide ((j : Int) < (nn : Int)) = false := by simp; omega
          have BR := Lib.hid (B8.out.trans (HB.out.mono B8.out.size))
          have E1 := LinS.eval lo hi _ _ z C A5 f c5 zs vs wr (RC8.out.below HB.out) r5 (by omega) hk'
          have HAB := Lib.hid (HS1.out vs)
          generalize (evalL z zs vs).getD 0 = p at *
          generalize (evalL z zs vs).isSome = p2 at *
          have E1 := Lib.hid E1
          have LbR := Lib.hid (Lb8.out.below HB.out)
          have u0 := LbR.out.cell 0 _ rfl
          have u1 := LbR.out.cell 1 _ rfl
          clear f5 hlen HS1
          go_wp2_with fail
          refine (Calls.mono E1.out) ?_
          rintro e w10 ⟨rfl, b10⟩
          have e10 := HB.out.trans (b10.mono HB.out.size)
          have TI := Lib.hid (fun W (h : Below w10.heap.size w10 W) => SysI.satisfies _ _ nn G A5 ct c5 T vs W ((Ot8.out.below e10).below h).arg hnT ((r5.below b10).below h) hk')
          have SI := Lib.hid (fun W (h : Below w10.heap.size w10 W) => SysI.satisfies _ _ nn B A5 d c5 xs vs W ((RB8.out.below e10).below h) hxs ((r5.below b10).below h) hk')
          have SS := Lib.hid (fun W (h : Below w10.heap.size w10 W) => modelSat _ _ nn B A5 d c5 xs vs W ((RB8.out.below e10).below h) hxs ((r5.below b10).below h) hk')
          have La10 := Lib.hid (La8.out.below e10)
          have Lt10 := Lib.hid (Lt8.out.below e10)
          have KS := Lib.hid (fun W (h : Below w10.heap.size w10 W) => (show W.cell? ⟨w2.heap.size, 0, none⟩ = some (Value.int .i64 nn) ∧ W.cell? ⟨w2.heap.size, 1, none⟩ = some (Value.slice G T.length ct) ∧ W.cell? ⟨w1.heap.size, 0, none⟩ = some (Value.int .i64 nn) ∧ W.cell? ⟨w1.heap.size, 1, none⟩ = some (Value.slice B xs.length d) from ⟨(Lt10.out.below h).cell 0 _ rfl, (Lt10.out.below h).cell 1 _ rfl, (La10.out.below h).cell 0 _ rfl, (La10.out.below h).cell 1 _ rfl⟩))
          have B10 := Lib.hid (B8.out.trans (e10.mono B8.out.size))
          generalize SysS.satB nn T vs = ta at *
          generalize SysS.satB nn xs vs = sa at *
          have hla := La10.out.lt
          have hlt10 := Lt10.out.lt
          clear b10 e10 u0 u1 v0 v1 r5 E1 LbR La8 Lt8 Lb8 RB8 RC8 Ot8 HC8 HO VR HB BR
          cases sa with
          | false =>
            have hta : ta = false := by rw [HAB.out]; rfl
            subst hta
            obtain ⟨k1, k2, k3, k4⟩ := KS.out _ (Below.refl w10.heap.size w10).drew
            go_wp2_with fail
            first
              | (go_region_law (first
                  | (go_simp; go_at_call_of 18 (Value.agg #[Value.int .i64 nn, Value.slice G T.length ct]); refine (Calls.mono (TI.out _ (Below.refl w10.heap.size w10).drew)) ?_; rintro e w11 ⟨rfl, b11⟩; (have e1 : Below w10.heap.size w10 w11 := (Below.refl w10.heap.size w10).drew.trans b11); (obtain ⟨k1, k2, k3, k4⟩ := KS.out _ e1))
                  | (go_simp; go_at_call_of 18 (Value.agg #[Value.int .i64 nn, Value.slice B xs.length d]); refine (Calls.mono (SI.out _ (by first | exact e2 | exact e1))) ?_; rintro e w12 ⟨rfl, b12⟩; (have e2 : Below w10.heap.size w10 w12 := by first | exact e2.trans (b12.mono e2.size) | exact e1.trans (b12.mono e1.size)); (obtain ⟨k1, k2, k3, k4⟩ := KS.out _ e2))
                  | (go_simp; go_at_call 19; refine (Calls.mono (SS.out _ e2)) ?_; rintro e w13 ⟨rfl, b13⟩; (have e2 : Below w10.heap.size w10 w13 := e2.trans (b13.mono e2.size)); (obtain ⟨k1, k2, k3, k4⟩ := KS.out _ e2))))
              | fail
            all_goals
              have BF := Lib.hid (B10.out.trans (e2.mono B10.out.size))
              go_wp2
              go_ret
              exact ⟨rfl, BF.out⟩
          | true =>
            by_cases hp : 0 ≤ p
            · have hta : ta = true := by rw [HAB.out]; simp [hp]
              subst hta
              have hks0 := KS.out _ (Below.refl w10.heap.size w10).drew
              obtain ⟨k1, k2, k3, k4⟩ := hks0
              go_wp2_with fail
              go_region_held3 (fun w' => w'.cell? ⟨w2.heap.size, 0, none⟩ = some (Value.int .i64 nn) ∧ w'.cell? ⟨w2.heap.size, 1, none⟩ = some (Value.slice G T.length ct) ∧ w'.cell? ⟨w1.heap.size, 0, none⟩ = some (Value.int .i64 nn) ∧ w'.cell? ⟨w1.heap.size, 1, none⟩ = some (Value.slice B xs.length d))
                (first | exact KS.out _ e2 | exact KS.out _ e1 | exact KS.out _ (Below.refl _ _).drew | go_keep)
                (first
                  | (go_at_call_of 18 (Value.agg #[Value.int .i64 nn, Value.slice G T.length ct]); refine (Calls.mono (TI.out _ (Below.refl w10.heap.size w10).drew)) ?_; rintro e w11 ⟨rfl, b11⟩; (have e1 : Below w10.heap.size w10 w11 := (Below.refl w10.heap.size w10).drew.trans b11))
                  | (go_at_call_of 18 (Value.agg #[Value.int .i64 nn, Value.slice B xs.length d]); refine (Calls.mono (SI.out _ (by first | exact e2 | exact e1))) ?_; rintro e w12 ⟨rfl, b12⟩; (have e2 : Below w10.heap.size w10 w12 := by first | exact e2.trans (b12.mono e2.size) | exact e1.trans (b12.mono e1.size)))
                  | (go_at_call 19; refine (Calls.mono (SS.out _ e2)) ?_; rintro e w13 ⟨rfl, b13⟩; (have e2 : Below w10.heap.size w10 w13 := e2.trans (b13.mono e2.size))))
              have BF := Lib.hid (B10.out.trans (e2.mono B10.out.size))
              clear k1 k2 k3 k4
              go_wp2
              go_ret
              exact ⟨rfl, BF.out⟩
            · have hta : ta = false := by rw [HAB.out]; simp [hp]
              subst hta
              have hpd : decide (0 ≤ p) = false := decide_eq_false hp
              have hks0 := KS.out _ (Below.refl w10.heap.size w10).drew
              obtain ⟨k1, k2, k3, k4⟩ := hks0
              go_wp2_with fail
              go_region_held3 (fun w' => w'.cell? ⟨w2.heap.size, 0, none⟩ = some (Value.int .i64 nn) ∧ w'.cell? ⟨w2.heap.size, 1, none⟩ = some (Value.slice G T.length ct) ∧ w'.cell? ⟨w1.heap.size, 0, none⟩ = some (Value.int .i64 nn) ∧ w'.cell? ⟨w1.heap.size, 1, none⟩ = some (Value.slice B xs.length d))
                (first | exact KS.out _ e2 | exact KS.out _ e1 | exact KS.out _ (Below.refl _ _).drew | go_keep)
                (first
                  | (go_at_call_of 18 (Value.agg #[Value.int .i64 nn, Value.slice G T.length ct]); refine (Calls.mono (TI.out _ (Below.refl w10.heap.size w10).drew)) ?_; rintro e w11 ⟨rfl, b11⟩; (have e1 : Below w10.heap.size w10 w11 := (Below.refl w10.heap.size w10).drew.trans b11))
                  | (go_at_call_of 18 (Value.agg #[Value.int .i64 nn, Value.slice B xs.length d]); refine (Calls.mono (SI.out _ (by first | exact e2 | exact e1))) ?_; rintro e w12 ⟨rfl, b12⟩; (have e2 : Below w10.heap.size w10 w12 := by first | exact e2.trans (b12.mono e2.size) | exact e1.trans (b12.mono e1.size)))
                  | (go_at_call 19; refine (Calls.mono (SS.out _ e2)) ?_; rintro e w13 ⟨rfl, b13⟩; (have e2 : Below w10.heap.size w10 w13 := e2.trans (b13.mono e2.size))))
              have BF := Lib.hid (B10.out.trans (e2.mono B10.out.size))
              clear k1 k2 k3 k4
              go_wp2
              go_ret
              exact ⟨rfl, BF.out⟩

  · go_enter Try.func3, Try.ntmps3
    go_wp2_with fail
    refine (Draw.great A n c hn _).mono ?_
    rintro e w' ⟨rfl, rfl⟩
    go_wp2
    go_ret
    exact ⟨rfl, Below.refl _ _⟩

set_option maxRecDepth 100000 in
theorem lifted (os : Os) (started : os.Started) (H : Type) (enc : TypeId × Value → H) :
    ReturnsInHanded {} Try.checked os 3 .any (Rows.fnSystemsSpec.pre6 enc Try.prog Try.f3 Rows.fnSystemsRow.domain false) (Rows.fnSystemsSpec.post enc Try.prog Try.f3 false true false false) := by
  refine returnsInHanded_of_change (C := Try.checked) Frame.own started (by kernel_rfl) Try.func3
    (ChangeSpec.witness6 (enc := enc) (C := Try.checked) false ⟨#[], #[.slice none 0 0], []⟩ 8 (by kernel_rfl) (by kernel_rfl) (by kernel_rfl) (by kernel_rfl)) ?_
  intro W base args ds gs before hval0 hW _ _
  have hW' := hW
  have hval : ∀ (j : Nat) t v, Try.f3.params[j]? = some t → args[j]? = some v → Value.okWide Try.prog W .any base t v := hval0
  obtain ⟨p, q, hA0, hV, rfl, hfz, hnd⟩ := hW
  have hA : DataW.TrodAll enc Try.prog W 0 (fun _ => true) true Try.f3.params.toList args.toList ds p := hA0
  rw [Try.params3] at hA hval
  obtain ⟨v0, d0, rfl, rfl, h0⟩ := trodAll_one hA
  have hlt := fun x hx => hW'.lt x hx
  obtain ⟨rfl, rfl⟩ := trodVars_none hV
  obtain ⟨ab, nb, cb, rfl⟩ := okWide_slice Try.underlying22 (hval 0 22 v0 rfl rfl)
  obtain ⟨hb, hlb⟩ := Frame.open_code (W := W) (by kernel_rfl) Try.underlying22 Try.underlying5 h0 (fun x hx => hlt x (by simp [hx]))
  refine (walk ab nb cb W hb).mono fun e W' ⟨he, hb⟩ => ?_
  subst he
  exact ⟨_, rfl, Frame.law_post (tb := 4) Frame.laidOut (by kernel_rfl) (by kernel_rfl) (by kernel_rfl) Try.underlying4 hW' rfl hb⟩

theorem proved : Rows.FnSystemsSaid :=
  OpenClaim.holds_of_wide 3 Try.f3 rfl rfl rfl rfl rfl rfl rfl ⟨rfl, rfl, rfl, rfl, rfl⟩ rfl rfl rfl rfl rfl (by kernel_rfl) Try.func3 (by kernel_rfl)
    (of_decide_eq_true (by kernel_rfl)) (by unfold Func.isWrapper; first | (rw [if_pos (by decide +kernel)]; kernel_rfl) | (rw [if_neg (by decide +kernel)]; exact ⟨rfl, rfl⟩))
    (fun os started H enc _ => lifted os started H enc)
end LawSystems
end Go.Proofs.Ytompaciebpdmfaa
