import Derived.Test.YtnbgmhlhbcoicaaRows
import Derived.Test.YtnbgmhlhbcoicaaFrame
import Derived.Test.YtnbgmhlhbcoicaaFrameCode
import Derived.Test.YtnbgmhlhbcoicaaFarkCheck2
import Derived.Test.YtnbgmhlhbcoicaaFarkSpec2
import Derived.Test.YtnbgmhlhbcoicaaFarkMath
import Derived.Test.YtnbgmhlhbcoicaaDraw7e
import Derived.Test.YtnbgmhlhbcoicaaDraw7c
import Derived.Test.YtnbgmhlhbcoicaaSysImpl
import Derived.Test.YtnbgmhlhbcoicaaLawKit4
import Derived.OwnWalk
import Derived.Deep.RegionHeld3
import Derived.Deep.DeepCutAuto
import Derived.Deep.CutRange
import Derived.SliceStrings
/- At every code: a combination with multipliers that are not negative is not negative for the drawn values that satisfy the system drawn from the code, and a system that is found empty has no drawn solution: the law FnCombined returns true. There is no condition. -/
namespace Go.Proofs.Ytnbgmhlhbcoicaa
open Go.ChangeShapes Go.WideShapes Go.ChangeAt Go.RowKit
open Go.ChangeMaps (open_string shut_string)
namespace LawCombined
open RowK LinM Mem FarkM
theorem modelSat (lo hi : Nat) (n : Int) (A B : Option Addr) (c d : Nat) (xs : List (Int × List Int)) (us : List Int) (w : World) (hA : SysK.Arg w A xs.length c xs) (hl : Mem.linsSize xs ≤ 1000000000) (hB : RowK.Row lo hi w B (IntK.iv us)) (hl2 : us.length ≤ 1000000000) :
    Calls Try.prog 17 #[.agg #[.int .i64 n, .slice A xs.length c], .slice B us.length d] w fun e w' => e = .returned (.bool (SysS.satB n xs us)) ∧ Below w.heap.size w w' := by
  obtain ⟨q, fp, h⟩ := hA
  exact SysS.satisfies q fp lo hi n A B c d xs us w h hl hB hl2
theorem any6_size {N : Int} {xs : List (Int × List Int)} (h : Draw.Any6 N xs) : linsSize xs ≤ 1000 := by
  have h1 := Draw.linsSize_le (m := 9) h.2.2
  have := h.2.1
  omega
theorem own_empty (w : World) : (w.alloc (.cells #[] 3)).ownsRow w.heap.size 3 1 (.slice (some ⟨w.heap.size, 0, none⟩) 0 0) 0 [] :=
  ⟨by simp, Or.inr ⟨_, 0, #[], rfl, Nat.le_refl _, heap_alloc_new _ _, by simp, by simp, by simp, by simp⟩⟩
/-- The values so far, in new memory. -/
def ValRel (w : World) (N : Int) (v i : Value) (wr : World) : Prop := ∃ (j : Nat) (vs : List Int), j ≤ 9 ∧ ((j : Int) ≤ N ∨ j = 0) ∧ i = .int .i64 j ∧ vs.length = j ∧ wr.ownsRow w.heap.size 3 1 v vs.length (IntK.iv vs) ∧ Below w.heap.size w wr

set_option maxHeartbeats 4000000 in
set_option maxRecDepth 100000 in
theorem walk (A : Option Addr) (n c : Nat) (w0 : World) (hc : Draw.Code w0 A n) :
    Calls Try.prog 4 #[.slice A n c] w0 fun e w' => e = .returned (.bool true) ∧ Below w0.heap.size w0 w' := by
  by_cases hn : n ≤ 1048576
  · skip
    have B0 := Lib.hid (Below.refl w0.heap.size w0)
    go_enter Try.func4, Try.ntmps4
    go_wp2_with fail
    refine (Draw.small A n c hn _).mono ?_
    rintro e w' ⟨rfl, rfl⟩
    go_wp2_with fail
    refine (Calls.mono (Draw.drawCombineRows A n c hn _ hc)) ?_
    rintro e w1 ⟨N, B, d, xs, C, f, ms, lo, hi, rfl, hP, hm25, hA, hM, b1⟩
    have HC_1 := Lib.hid (hc.keep b1)
    have hs1 : w0.heap.size ≤ w1.heap.size := b1.size
    have d1 : Below w0.heap.size w0 w1 := (Below.refl w0.heap.size w0).trans (b1.mono (show w0.heap.size ≤ w0.heap.size by first | exact Nat.le_refl _ | (simp; done) | (simp; omega)))
    have B1 := Lib.hid (B0.out.trans (d1.mono B0.out.size))
    clear b1 d1
    have RB_1 := Lib.hid hA
    have RM_1 := Lib.hid hM
    clear hA hM
    have hsz := any6_size hP
    have hxs : linsSize xs ≤ 1000000000 := by omega
    have hN9 : N ≤ 9 := hP.1.2
    have IM := fun W (h : SysK.Arg W B xs.length d xs) (h' : Row lo hi W C (IntK.iv ms)) => (FarkI.combineC lo hi N B C d f xs ms W h hxs h' (by omega)).mono fun _ _ h => h.gave
    have SP := fun W (h : SysK.Arg W B xs.length d xs) (h' : Row lo hi W C (IntK.iv ms)) => FarkS.combine lo hi N B C d f xs ms W h hxs h' (by omega)
    have hT := combR_small N xs ms
    have HV := Lib.hid (fun h vs (hs : SysS.satB N xs vs = true) => combR_value (N := N) (xs := xs) (ms := ms) (vs := vs) h hs)
    unfold LinI.GaveO at IM SP
    generalize (combR N xs ms).getD (0, []) = T at *
    generalize (combR N xs ms).isSome = q at *
    have IM := Lib.hid IM
    have SP := Lib.hid SP
    have hEQ : eqB T.1 T.1 T.2 T.2 = true := by simp [eqB]
    clear hP
    go_wp2_with fail
    refine (Calls.mono (IM.out _ (RB_1.out.below ((Below.refl w1.heap.size w1).alloc (by first | (simp; done) | (simp; omega)) (Obj.cells #[Value.int .i64 N, Value.slice B xs.length d] 26))) (RM_1.out.below ((Below.refl w1.heap.size w1).alloc (by first | (simp; done) | (simp; omega)) (Obj.cells #[Value.int .i64 N, Value.slice B xs.length d] 26))))) ?_
    rintro e w2 ⟨G, cl, rfl, rl, fl, b2⟩
    simp only [World.size_alloc] at rl
    have Ol := Lib.hid (show IntK.Own (w1.heap.size + 1) w2.heap.size w2 G T.2 from ⟨rl, fl⟩)
    have hs2 : (w1.alloc (Obj.cells #[Value.int .i64 N, Value.slice B xs.length d] 26)).heap.size ≤ w2.heap.size := b2.size
    simp only [World.size_alloc] at hs2
    have d2 : Below w1.heap.size w1 w2 := ((Below.refl w1.heap.size w1).alloc (by first | (simp; done) | (simp; omega)) (Obj.cells #[Value.int .i64 N, Value.slice B xs.length d] 26)).trans (b2.mono (show w1.heap.size ≤ (w1.alloc (Obj.cells #[Value.int .i64 N, Value.slice B xs.length d] 26)).heap.size by first | exact Nat.le_refl _ | (simp; done) | (simp; omega)))
    have B2 := Lib.hid (B1.out.trans (d2.mono B1.out.size))
    have RB_2 := Lib.hid (RB_1.out.below d2)
    have RM_2 := Lib.hid (RM_1.out.below d2)
    have HC_2 := Lib.hid (HC_1.out.keep d2)
    have Va_2 := Lib.hid ((Lvar.new w1 #[Value.int .i64 N, Value.slice B xs.length d] 26).below b2)
    clear RB_1 RM_1 HC_1 b2 d2
    have c_Va_0 := Va_2.out.cell 0 _ rfl
    have c_Va_1 := Va_2.out.cell 1 _ rfl
    have lt_Va := Va_2.out.lt
    go_wp2_with fail
    refine (Calls.mono (SP.out _ (RB_2.out.below ((Below.refl w2.heap.size w2).alloc (by first | (simp; done) | (simp; omega)) (Obj.cells #[Value.int .i64 T.1, Value.slice G T.2.length cl] 29))) (RM_2.out.below ((Below.refl w2.heap.size w2).alloc (by first | (simp; done) | (simp; omega)) (Obj.cells #[Value.int .i64 T.1, Value.slice G T.2.length cl] 29))))) ?_
    rintro e w3 ⟨W, cw, rfl, rw, fw, b3⟩
    simp only [World.size_alloc] at rw
    have Ow := Lib.hid (show IntK.Own (w2.heap.size + 1) w3.heap.size w3 W T.2 from ⟨rw, fw⟩)
    have hs3 : (w2.alloc (Obj.cells #[Value.int .i64 T.1, Value.slice G T.2.length cl] 29)).heap.size ≤ w3.heap.size := b3.size
    simp only [World.size_alloc] at hs3
    have d3 : Below w2.heap.size w2 w3 := ((Below.refl w2.heap.size w2).alloc (by first | (simp; done) | (simp; omega)) (Obj.cells #[Value.int .i64 T.1, Value.slice G T.2.length cl] 29)).trans (b3.mono (show w2.heap.size ≤ (w2.alloc (Obj.cells #[Value.int .i64 T.1, Value.slice G T.2.length cl] 29)).heap.size by first | exact Nat.le_refl _ | (simp; done) | (simp; omega)))
    have B3 := Lib.hid (B2.out.trans (d3.mono B2.out.size))
    have RB_3 := Lib.hid (RB_2.out.below d3)
    have RM_3 := Lib.hid (RM_2.out.below d3)
    have HC_3 := Lib.hid (HC_2.out.keep d3)
    have Va_3 := Lib.hid (Va_2.out.below d3)
    have Ol_3 := Lib.hid (Ol.out.below d3)
    have Vl_3 := Lib.hid ((Lvar.new w2 #[Value.int .i64 T.1, Value.slice G T.2.length cl] 29).below b3)
    clear RB_2 RM_2 HC_2 Va_2 Ol c_Va_0 c_Va_1 lt_Va b3 d3
    have dS4 : Below w3.heap.size w3 (w3.alloc (Obj.cells #[Value.int .i64 T.1, Value.slice W T.2.length cw] 29)) := ((Below.refl w3.heap.size w3).alloc (by first | (simp; done) | (simp; omega)) (Obj.cells #[Value.int .i64 T.1, Value.slice W T.2.length cw] 29))
    have hS4 : w3.heap.size + 1 ≤ (w3.alloc (Obj.cells #[Value.int .i64 T.1, Value.slice W T.2.length cw] 29)).heap.size := by simp
    have HS4 := Lib.hid hS4
    have B4 := Lib.hid (B3.out.trans (dS4.mono B3.out.size))
    have RB_4 := Lib.hid (RB_3.out.below dS4)
    have RM_4 := Lib.hid (RM_3.out.below dS4)
    have HC_4 := Lib.hid (HC_3.out.keep dS4)
    have Va_4 := Lib.hid (Va_3.out.below dS4)
    have Ol_4 := Lib.hid (Ol_3.out.below dS4)
    have Vl_4 := Lib.hid (Vl_3.out.below dS4)
    have Ow_4 := Lib.hid (Ow.out.below dS4)
    have Vw_4 := Lib.hid (Lvar.new w3 #[Value.int .i64 T.1, Value.slice W T.2.length cw] 29)
    clear RB_3 RM_3 HC_3 Va_3 Ol_3 Vl_3 Ow dS4 hS4
    go_upto_region 6 with fail
    generalize (w3.alloc (Obj.cells #[Value.int .i64 T.1, Value.slice W T.2.length cw] 29)) = w4 at *
    have hs4 : w3.heap.size + 1 ≤ w4.heap.size := HS4.out
    have c_Va_0 := Va_4.out.cell 0 _ rfl
    have c_Va_1 := Va_4.out.cell 1 _ rfl
    have lt_Va := Va_4.out.lt
    have c_Vl_0 := Vl_4.out.cell 0 _ rfl
    have c_Vl_1 := Vl_4.out.cell 1 _ rfl
    have lt_Vl := Vl_4.out.lt
    have c_Vw_0 := Vw_4.out.cell 0 _ rfl
    have c_Vw_1 := Vw_4.out.cell 1 _ rfl
    have lt_Vw := Vw_4.out.lt
    go_wp2_with fail
    go_region_held3 (fun w' => w'.cell? ⟨w2.heap.size, 0, none⟩ = some (Value.int .i64 T.1) ∧ w'.cell? ⟨w2.heap.size, 1, none⟩ = some (Value.slice G T.2.length cl) ∧ w'.cell? ⟨w3.heap.size, 0, none⟩ = some (Value.int .i64 T.1) ∧ w'.cell? ⟨w3.heap.size, 1, none⟩ = some (Value.slice W T.2.length cw))
      (first | exact ⟨((((Vl_4.out.below (Below.refl _ _).drew).below b5).below b6).below b7).cell 0 _ rfl, ((((Vl_4.out.below (Below.refl _ _).drew).below b5).below b6).below b7).cell 1 _ rfl, ((((Vw_4.out.below (Below.refl _ _).drew).below b5).below b6).below b7).cell 0 _ rfl, ((((Vw_4.out.below (Below.refl _ _).drew).below b5).below b6).below b7).cell 1 _ rfl⟩ | exact ⟨(((Vl_4.out.below (Below.refl _ _).drew).below b5).below b6).cell 0 _ rfl, (((Vl_4.out.below (Below.refl _ _).drew).below b5).below b6).cell 1 _ rfl, (((Vw_4.out.below (Below.refl _ _).drew).below b5).below b6).cell 0 _ rfl, (((Vw_4.out.below (Below.refl _ _).drew).below b5).below b6).cell 1 _ rfl⟩ | exact ⟨((Vl_4.out.below (Below.refl _ _).drew).below b5).cell 0 _ rfl, ((Vl_4.out.below (Below.refl _ _).drew).below b5).cell 1 _ rfl, ((Vw_4.out.below (Below.refl _ _).drew).below b5).cell 0 _ rfl, ((Vw_4.out.below (Below.refl _ _).drew).below b5).cell 1 _ rfl⟩ | go_keep)
      (first
        | (go_at_call 21; refine (Calls.mono (LinS.equal _ _ _ _ T.1 T.1 G W cl cw T.2 T.2 _ (Ol_4.out.below (Below.refl _ _).drew).1 (Ow_4.out.below (Below.refl _ _).drew).1 (by omega) (by omega))) ?_; rintro e w5 ⟨rfl, b5⟩)
        | (go_at_call 22; refine (Calls.mono (FarkI.isConst _ _ T.1 G cl T.2 _ ((Ol_4.out.below (Below.refl _ _).drew).below b5).1 (by omega))) ?_; rintro e w6 ⟨rfl, b6⟩)
        | (go_at_call 23; refine (Calls.mono (FarkS.isConst _ _ T.1 G cl T.2 _ (((Ol_4.out.below (Below.refl _ _).drew).below b5).below b6).1 (by omega))) ?_; rintro e w7 ⟨rfl, b7⟩))
    have h5 : w4.heap.size ≤ w5.heap.size := b5.size
    have h6 : w5.heap.size ≤ w6.heap.size := b6.size
    have h7 : w6.heap.size ≤ w7.heap.size := b7.size
    have d7 : Below w4.heap.size w4 w7 := ((((Below.refl w4.heap.size w4).drew.trans (b5.mono (show w4.heap.size ≤ w4.heap.size by omega))).trans (b6.mono (show w4.heap.size ≤ w5.heap.size by omega))).trans (b7.mono (show w4.heap.size ≤ w6.heap.size by omega)))
    have hs7 := d7.size
    have B7 := Lib.hid (B4.out.trans (d7.mono B4.out.size))
    have RB_7 := Lib.hid (RB_4.out.below d7)
    have RM_7 := Lib.hid (RM_4.out.below d7)
    have HC_7 := Lib.hid (HC_4.out.keep d7)
    have Va_7 := Lib.hid (Va_4.out.below d7)
    have Ol_7 := Lib.hid (Ol_4.out.below d7)
    have Vl_7 := Lib.hid (Vl_4.out.below d7)
    have Ow_7 := Lib.hid (Ow_4.out.below d7)
    have Vw_7 := Lib.hid (Vw_4.out.below d7)
    clear RB_4 RM_4 HC_4 Va_4 Ol_4 Vl_4 Ow_4 Vw_4 c_Va_0 c_Va_1 lt_Va c_Vl_0 c_Vl_1 lt_Vl c_Vw_0 c_Vw_1 lt_Vw b5 h5 b6 h6 b7 h7 d7
    obtain ⟨wo, rfl⟩ : ∃ wo : World, wo = w7 := ⟨_, rfl⟩
    have hbs := B7.out.size
    have HCR := HC_7
    have VAR := Va_7
    have VLR := Vl_7
    have RBR := RB_7
    have OLR := Ol_7
    have BR := B7
    obtain ⟨i0, hi0, hz0, hz1, hz2⟩ := info_parts IntK.intInfo
    have s9 : Below wo.heap.size wo (wo.alloc (.cells #[] 3)) := (Below.refl _ _).alloc (Nat.le_refl _) _
    have O9 := Lib.hid (own_empty wo)
    go_upto_region 10 with fail
    generalize wo.alloc (.cells #[] 3) = w9 at *
    go_loopw [9, 10] (fun v i wx => ValRel wo N v i wx) (fun _ i _ => 20 - (intOf i).toNat)
    case atStart => exact ⟨0, [], by omega, Or.inr rfl, rfl, rfl, O9.out, s9⟩
    case round =>
      obtain ⟨j, vs, hj, hjN, rfl, hlen, hown, hb⟩ := hrel
      have HO := Lib.hid hown
      have HL := Lib.hid hlen
      have hbase := hb.size
      have VR := Lib.hid (VAR.out.below hb)
      have va0 := VR.out.cell 0 (.int .i64 N) rfl
      have HB := Lib.hid hb
      clear hown s9 hb O9
      by_cases hlt : (j : Int) < N
      · skip
        have hk0 : (0 : Int) ≤ (j : Int) := by omega
        have hk1 : (j : Int) < N := hlt
        have AT := Draw.at0 A n c j hn (by omega) wr (HCR.out.keep HB.out)
        have AT := Lib.hid AT
        clear hlen
        go_wp2_with fail
        refine (Calls.mono AT.out) ?_
        rintro e w' ⟨x, hx, rfl, rfl⟩
        have hm0 : x.tmod 14 = x % 14 := Int.tmod_eq_emod_of_nonneg hx.1
        have hy : -4 ≤ x % 14 - 4 ∧ x % 14 - 4 ≤ 9 := by omega
        have hw : IntKind.i64.wrap (x % 14 - 4) = x % 14 - 4 := IntWalk.i64_in _ (by omega)
        go_wp2_with (at_builtin; go_loud (refine wpList_append_own _ rfl (.tmp 59) (.tmp 65) 27 rfl wo.heap.size 3 i0 (.int .i64 0) 1 8 Try.underlying27 hi0 hz0 hz1 hz2 rfl (by decide) _ _ _ rfl (HO.out.alloc _) ⟨wr.heap.size, 0, none⟩ 1 1 [.int .i64 (x % 14 - 4)] rfl rfl (cell_one_new _ _ _) (by simp [Value.oneCell']) (by unfold maxLen; have := HL.out; omega) (by have := HL.out; omega) (by simp <;> omega) ?_); intro v4 w4' hown4 hgrow _)
        have hb4 : Below wo.heap.size wo w4' := (HB.out.alloc HB.out.size _).grown hgrow (by simp <;> omega) (fun j hj => (HO.out.lt j hj).1)
        have hown5 : w4'.ownsRow wo.heap.size 3 1 v4 (vs ++ [x % 14 - 4]).length (IntK.iv (vs ++ [x % 14 - 4])) := by simpa [IntK.iv] using hown4
        have hl5 : (vs ++ [x % 14 - 4]).length = j + 1 := by have := HL.out; simp; omega
        clear hown4 hgrow hm0 hw hy
        generalize vs ++ [x % 14 - 4] = vs2 at *
        have HN5 := Lib.hid hl5
        clear hl5
        go_wp2
        go_roundw
        case rel => exact ⟨j + 1, vs2, by omega, Or.inl (by omega), by go_num, HN5.out, hown5, hb4⟩
        case measure => simp [intOf]; omega
      · have hk' : vs.length ≤ 1000000000 := by omega
        obtain ⟨A5, c5, e5, r5, f5, _, _⟩ := of_own HO.out
        subst e5
        have hlz : decide ((j : Int) < N) = false := decide_eq_false hlt
        have E1 := Lib.hid (LinS.eval _ _ _ _ T.1 G A5 cl c5 T.2 vs wr (OLR.out.below HB.out).1 r5 (by omega) hk')
        have HV2 := Lib.hid (fun h => HV.out h vs)
        have LbR := Lib.hid (VLR.out.below HB.out)
        have u0 := LbR.out.cell 0 (.int .i64 T.1) rfl
        have u1 := LbR.out.cell 1 (.slice G T.2.length cl) rfl
        have SS := Lib.hid (fun W (h : Below wr.heap.size wr W) => modelSat _ _ N B A5 d c5 xs vs W ((RBR.out.below HB.out).below h) hxs (r5.below h) hk')
        generalize (evalL T.1 T.2 vs).getD 0 = p at *
        generalize (evalL T.1 T.2 vs).isSome = p2 at *
        clear f5 hlen
        go_wp2_with fail
        refine (Calls.mono E1.out) ?_
        rintro e w10 ⟨rfl, b10⟩
        have VA10 := Lib.hid (VR.out.below b10)
        have H10 := Lib.hid (BR.out.trans ((HB.out.trans (b10.mono HB.out.size)).mono BR.out.size))
        have HC10 := Lib.hid ((HCR.out.keep HB.out).keep b10)
        have a0 := VA10.out.cell 0 (.int .i64 N) rfl
        have a1 := VA10.out.cell 1 (.slice B xs.length d) rfl
        have S1 := Lib.hid (SS.out w10 b10)
        generalize SysS.satB N xs vs = sa at *
        clear b10 u0 u1 va0 r5 LbR
        go_upto_region 14 with fail
        go_cut [82] from 73 to 82 (fun s wx => s = .bool false ∧ Below w10.heap.size w10 wx)
        case first =>
          cases q with
          | false =>
            go_wp2_with fail
            go_meet
            exact ⟨rfl, Below.refl _ _⟩
          | true =>
            cases sa with
            | false =>
              go_wp2_with fail
              refine (Calls.mono S1.out) ?_
              rintro e w11 ⟨rfl, b11⟩
              go_wp2_with fail
              go_meet
              exact ⟨rfl, b11⟩
            | true =>
              have hp := HV2.out rfl rfl
              have hpd : decide (p < 0) = false := decide_eq_false (by omega)
              go_wp2_with fail
              refine (Calls.mono S1.out) ?_
              rintro e w11 ⟨rfl, b11⟩
              go_wp2_with fail
              go_meet
              exact ⟨rfl, b11⟩
        case rest =>
          obtain ⟨w12, rfl⟩ : ∃ w12 : World, w12 = wc := ⟨_, rfl⟩
          obtain ⟨rfl, d12⟩ := hcut
          have B12 := Lib.hid (H10.out.trans (d12.mono H10.out.size))
          have HC12 := Lib.hid (HC10.out.keep d12)
          clear a0 a1 S1 SS E1 VA10 VR d12
          go_wp2_with fail
          refine (Calls.mono (Draw.drawCheckEmpty A n c hn _ HC12.out)) ?_
          rintro e w13 ⟨N2, B2, d2, ys, C2, f2, ks, lo2, hi2, rfl, hP2, hk25, hA2, hM2, b13⟩
          have hsz2 := any6_size hP2
          have hys : linsSize ys ≤ 1000000000 := by omega
          have a14 : Below w13.heap.size w13 (w13.alloc (Obj.cells #[Value.int .i64 N2, Value.slice B2 ys.length d2] 26)) := (Below.refl _ _).alloc (Nat.le_refl _) _
          have B13 := B12.out.trans (b13.mono B12.out.size)
          have B14 := Lib.hid (B13.trans (a14.mono B13.size))
          have A14 := Lib.hid (hA2.below a14)
          have M14 := Lib.hid (hM2.below a14)
          have V14 := Lib.hid (Lvar.new w13 #[Value.int .i64 N2, Value.slice B2 ys.length d2] 26)
          clear hA2 hM2 a14 B13 b13
          go_upto_region 17 with fail
          generalize w13.alloc (Obj.cells #[Value.int .i64 N2, Value.slice B2 ys.length d2] 26) = w14 at *
          have v0 := V14.out.cell 0 (.int .i64 N2) rfl
          have v1 := V14.out.cell 1 (.slice B2 ys.length d2) rfl
          have CI := Lib.hid (FarkI.checkEmpty _ _ N2 B2 C2 d2 f2 ys ks w14 A14.out hys M14.out (by omega))
          have CS := Lib.hid (fun W (h : Below w14.heap.size w14 W) => FarkS.checkEmpty _ _ N2 B2 C2 d2 f2 ys ks W (A14.out.below h) hys (M14.out.below h) (by omega))
          have HE := Lib.hid (fun (h : checkE N2 ys ks = true) vs => empty_sound (vs := vs) h)
          generalize checkE N2 ys ks = ce at *
          go_wp2_with fail
          refine (Calls.mono CI.out) ?_
          rintro e w15 ⟨rfl, b15⟩
          have V15 := Lib.hid (V14.out.below b15)
          have C15 := Lib.hid (CS.out w15 b15)
          have B15 := Lib.hid (B14.out.trans (b15.mono B14.out.size))
          have A15 := Lib.hid (A14.out.below b15)
          clear b15 v0 v1 V14 CI CS A14
          have v0 := V15.out.cell 0 (.int .i64 N2) rfl
          have v1 := V15.out.cell 1 (.slice B2 ys.length d2) rfl
          go_wp2_with fail
          refine (Calls.mono C15.out) ?_
          rintro e w16 ⟨rfl, b16⟩
          have V16 := Lib.hid (V15.out.below b16)
          have B16 := Lib.hid (B15.out.trans (b16.mono B15.out.size))
          have A16 := Lib.hid (A15.out.below b16)
          clear b16 v0 v1 V15 C15 A15
          cases ce with
          | false =>
            go_wp2
            go_loopw [16] (fun i wy => i = .int .i64 (-6) ∧ Below w16.heap.size w16 wy) (fun i _ => 20 - (intOf i + 6).toNat)
            case atStart => exact ⟨rfl, Below.refl _ _⟩
            case round =>
              obtain ⟨rfl, hb⟩ := hrel
              have BF := Lib.hid (B16.out.trans (hb.mono B16.out.size))
              go_wp2
              go_ret
              exact ⟨rfl, BF.out⟩
          | true =>
            go_wp2
            go_loopw [16] (fun i wy => ∃ k : Nat, k ≤ 13 ∧ i = .int .i64 ((k : Int) - 6) ∧ Below w16.heap.size w16 wy) (fun i _ => 20 - (intOf i + 6).toNat)
            case atStart => exact ⟨0, by omega, rfl, Below.refl _ _⟩
            case round =>
              obtain ⟨k, hk, rfl, hb⟩ := hrel
              obtain ⟨wy, rfl⟩ : ∃ wy : World, wy = wr := ⟨_, rfl⟩
              have BF := Lib.hid (B16.out.trans (hb.mono B16.out.size))
              by_cases hk13 : k < 13
              · have hkd : decide ((k : Int) - 6 < 7) = true := decide_eq_true (by omega)
                have hkl : (k : Int) - 6 < 7 := by omega
                have V17 := Lib.hid (V16.out.below hb)
                have v0 := V17.out.cell 0 (.int .i64 N2) rfl
                have v1 := V17.out.cell 1 (.slice B2 ys.length d2) rfl
                have a17 : Below wy.heap.size wy (wy.alloc (.cells #[.int .i64 ((k : Int) - 6)] 3)) := (Below.refl _ _).alloc (Nat.le_refl _) _
                have r17 : Row wy.heap.size (wy.heap.size + 1) (wy.alloc (.cells #[.int .i64 ((k : Int) - 6)] 3)) (some ⟨wy.heap.size, 0, none⟩) (IntK.iv [(k : Int) - 6]) := (Lvar.new wy #[.int .i64 ((k : Int) - 6)] 3).row.1
                have SS := Lib.hid (modelSat _ _ N2 B2 (some ⟨wy.heap.size, 0, none⟩) d2 1 ys [(k : Int) - 6] _ ((A16.out.below hb).below a17) hys r17 (by simp))
                rw [HE.out (by first | rfl | trivial) [(k : Int) - 6]] at SS
                have HBY := Lib.hid (hb.trans (a17.mono hb.size))
                have hwk : IntKind.i64.wrap ((k : Int) - 6 + 1) = (k : Int) - 6 + 1 := IntWalk.i64_in _ (by omega)
                clear a17 r17 hb
                go_wp2_with fail
                refine (Calls.mono SS.out) ?_
                rintro e w18 ⟨rfl, b18⟩
                have H18 := Lib.hid (HBY.out.trans (b18.mono HBY.out.size))
                clear b18 v0 v1
                go_wp2
                go_roundw
                case rel => exact ⟨k + 1, by omega, by congr 1; omega, H18.out⟩
                case measure => simp [intOf]; omega
              · have hkd : decide ((k : Int) - 6 < 7) = false := decide_eq_false (by omega)
                go_wp2
                go_ret
                exact ⟨rfl, BF.out⟩

  · go_enter Try.func4, Try.ntmps4
    go_wp2_with fail
    refine (Draw.great A n c hn _).mono ?_
    rintro e w' ⟨rfl, rfl⟩
    go_wp2
    go_ret
    exact ⟨rfl, Below.refl _ _⟩

set_option maxRecDepth 100000 in
theorem lifted (os : Os) (started : os.Started) (H : Type) (enc : TypeId × Value → H) :
    ReturnsInHanded {} Try.checked os 4 .any (Rows.fnCombinedSpec.pre6 enc Try.prog Try.f4 Rows.fnCombinedRow.domain false) (Rows.fnCombinedSpec.post enc Try.prog Try.f4 false true false false) := by
  refine returnsInHanded_of_change (C := Try.checked) Frame.own started (by kernel_rfl) Try.func4
    (ChangeSpec.witness6 (enc := enc) (C := Try.checked) false ⟨#[], #[.slice none 0 0], []⟩ 8 (by kernel_rfl) (by kernel_rfl) (by kernel_rfl) (by kernel_rfl)) ?_
  intro W base args ds gs before hval0 hW _ _
  have hW' := hW
  have hval : ∀ (j : Nat) t v, Try.f4.params[j]? = some t → args[j]? = some v → Value.okWide Try.prog W .any base t v := hval0
  obtain ⟨p, q, hA0, hV, rfl, hfz, hnd⟩ := hW
  have hA : DataW.TrodAll enc Try.prog W 0 (fun _ => true) true Try.f4.params.toList args.toList ds p := hA0
  rw [Try.params4] at hA hval
  obtain ⟨v0, d0, rfl, rfl, h0⟩ := trodAll_one hA
  have hlt := fun x hx => hW'.lt x hx
  obtain ⟨rfl, rfl⟩ := trodVars_none hV
  obtain ⟨ab, nb, cb, rfl⟩ := okWide_slice Try.underlying22 (hval 0 22 v0 rfl rfl)
  obtain ⟨hb, hlb⟩ := Frame.open_code (W := W) (by kernel_rfl) Try.underlying22 Try.underlying5 h0 (fun x hx => hlt x (by simp [hx]))
  refine (walk ab nb cb W hb).mono fun e W' ⟨he, hb⟩ => ?_
  subst he
  exact ⟨_, rfl, Frame.law_post (tb := 4) Frame.laidOut (by kernel_rfl) (by kernel_rfl) (by kernel_rfl) Try.underlying4 hW' rfl hb⟩

theorem proved : Rows.FnCombinedSaid :=
  OpenClaim.holds_of_wide 4 Try.f4 rfl rfl rfl rfl rfl rfl rfl ⟨rfl, rfl, rfl, rfl, rfl⟩ rfl rfl rfl rfl rfl (by kernel_rfl) Try.func4 (by kernel_rfl)
    (of_decide_eq_true (by kernel_rfl)) (by unfold Func.isWrapper; first | (rw [if_pos (by decide +kernel)]; kernel_rfl) | (rw [if_neg (by decide +kernel)]; exact ⟨rfl, rfl⟩))
    (fun os started H enc _ => lifted os started H enc)
end LawCombined
end Go.Proofs.Ytnbgmhlhbcoicaa
