import Derived.Test.YtmkelfjnjnjgbaaRows
import Derived.Test.YtmkelfjnjnjgbaaFrame
import Derived.Test.YtmkelfjnjnjgbaaFrameCode
import Derived.Test.YtmkelfjnjnjgbaaFarkSpec2
import Derived.Test.YtmkelfjnjnjgbaaFarkMath2
import Derived.Test.YtmkelfjnjnjgbaaDraw8
import Derived.Test.YtmkelfjnjnjgbaaLawKit4
import Derived.Test.YtmkelfjnjnjgbaaElimEntS
import Derived.Test.YtmkelfjnjnjgbaaElimEntM
import Derived.OwnWalk
import Derived.Deep.RegionHeld3
import Derived.Deep.DeepCutAuto
import Derived.Test.YtmkelfjnjnjgbaaDraw8b
import Derived.SliceStrings
/- At every code: what the program finds entailed holds at every solution that is tried, and a system it calls empty has none of them; what the model says of emptiness it says too: the law FnEntailed returns true. There is no condition. -/
namespace Go.Proofs.Ytmkelfjnjnjgbaa
open Go.ChangeShapes Go.WideShapes Go.ChangeAt Go.RowKit
open Go.ChangeMaps (open_string shut_string)
namespace LawEntailed
open RowK LinM Mem FarkM
theorem modelSat (lo hi : Nat) (n : Int) (A B : Option Addr) (c d : Nat) (xs : List (Int × List Int)) (us : List Int) (w : World) (hA : SysK.Arg w A xs.length c xs) (hl : Mem.linsSize xs ≤ 1000000000) (hB : RowK.Row lo hi w B (IntK.iv us)) (hl2 : us.length ≤ 1000000000) :
    Calls Try.prog 21 #[.agg #[.int .i64 n, .slice A xs.length c], .slice B us.length d] w fun e w' => e = .returned (.bool (SysS.satB n xs us)) ∧ Below w.heap.size w w' := by
  obtain ⟨q, fp, h⟩ := hA
  exact SysS.satisfies q fp lo hi n A B c d xs us w h hl hB hl2
theorem any6_size {N : Int} {xs : List (Int × List Int)} (h : Draw.Any6 N xs) : linsSize xs ≤ 1000 := by
  have h1 := Draw.linsSize_le (m := 9) h.2.2
  have := h.2.1
  omega
theorem own_empty (w : World) : (w.alloc (.cells #[] 3)).ownsRow w.heap.size 3 1 (.slice (some ⟨w.heap.size, 0, none⟩) 0 0) 0 [] :=
  ⟨by simp, Or.inr ⟨_, 0, #[], rfl, Nat.le_refl _, heap_alloc_new _ _, by simp, by simp, by simp, by simp⟩⟩
/-- The values so far, in new memory. -/
def ValRel (w : World) (N : Int) (v i : Value) (wr : World) : Prop := ∃ (j : Nat) (vs : List Int), j ≤ 9 ∧ ((j : Int) ≤ N ∨ j = 0) ∧ i = .int .i64 j ∧ vs.length = j ∧ wr.ownsRow w.heap.size 3 1 v vs.length (IntK.iv vs) ∧ Below w.heap.size w wr

theorem ent_sound {N : Int} {xs : List (Int × List Int)} {z : Int} {zs vs : List Int} (h : ElimM.entB N xs (z, zs) = true) (hs : SysS.satB N xs vs = true) : 0 ≤ (evalL z zs vs).getD 0 := by
  unfold ElimM.entB at h
  cases hf : ElimM.findF N xs (z, zs) with
  | none => rw [hf] at h; cases h
  | some r => exact check_sound (ElimM.find_check hf) hs
theorem dot_zero : ∀ (k : Nat) (vs : List Int), dot (List.replicate k 0) vs = 0
  | 0, vs => by cases vs <;> rfl
  | k + 1, [] => rfl
  | k + 1, y :: ys => by rw [List.replicate_succ, show dot (0 :: List.replicate k 0) (y :: ys) = 0 * y + dot (List.replicate k 0) ys from rfl, dot_zero k ys]; omega
theorem emp_sound {N : Int} {xs : List (Int × List Int)} {vs : List Int} (hs : SysS.satB N xs vs = true) : ElimM.empB N xs = false := by
  cases h : ElimM.empB N xs with
  | false => rfl
  | true =>
    unfold ElimM.empB ElimM.entB at h
    cases hf : ElimM.findF N xs (LinM.constL (-1) N) with
    | none => rw [hf] at h; cases h
    | some r =>
      have h1 := check_sound (ElimM.find_check hf) hs
      obtain ⟨h2, h3, h4, _⟩ := sat_rows hs
      have hc := cntB_iff.1 h4
      have e1 : constL (-1) N = (-1, List.replicate N.toNat 0) := by unfold constL; rw [if_pos ⟨h4, by decide⟩]
      have hv : vldB (-1) (List.replicate N.toNat 0) vs.length = true := vldB_iff.2 ⟨by omega, by simp; omega, by decide, fun x hx => by rw [List.eq_of_mem_replicate hx]; decide⟩
      have e2 : evalL (-1) (List.replicate N.toNat 0) vs = some (-1 + 0) := by unfold evalL; rw [if_pos ⟨hv, h2⟩, dot_zero]
      rw [e1] at h1
      simp only at h1
      rw [e2] at h1
      simp at h1

set_option maxHeartbeats 4000000 in
set_option maxRecDepth 100000 in
theorem walk (A : Option Addr) (n c : Nat) (w0 : World) (hc : Draw.Code w0 A n) :
    Calls Try.prog 4 #[.slice A n c] w0 fun e w' => e = .returned (.bool true) ∧ Below w0.heap.size w0 w' := by
  by_cases hn : n ≤ 1048576
  · skip
    have B0 := Lib.hid (Below.refl w0.heap.size w0)
    go_enter Try.func4, Try.ntmps4
    go_wp2_with fail
    refine (Draw.small A n c hn _).mono ?_
    rintro e w' ⟨rfl, rfl⟩
    go_wp2_with fail
    refine (Calls.mono (Draw.drawEntails A n c hn _ hc)) ?_
    rintro e w1 ⟨N, B, d, xs, z, zs, C, f, lo, hi, rfl, hP, hz9, hA, hT, b1⟩
    have HC_1 := Lib.hid (hc.keep b1)
    have hs1 : w0.heap.size ≤ w1.heap.size := b1.size
    have d1 : Below w0.heap.size w0 w1 := (Below.refl w0.heap.size w0).trans (b1.mono (show w0.heap.size ≤ w0.heap.size by first | exact Nat.le_refl _ | (simp; done) | (simp; omega)))
    have B1 := Lib.hid (B0.out.trans (d1.mono B0.out.size))
    clear b1 d1
    have RB_1 := Lib.hid hA
    have RT_1 := Lib.hid hT
    clear hA hT
    have hsz := any6_size hP
    have hxs : linsSize xs ≤ 1000000000 := by omega
    have hN9 : N ≤ 9 := hP.1.2
    have IM := fun W (h : SysK.Arg W B xs.length d xs) (h' : Row lo hi W C (IntK.iv zs)) => ElimI.entails lo hi N B C d f xs z zs W h hxs h' (by omega)
    have SP := fun W (h : SysK.Arg W B xs.length d xs) (h' : Row lo hi W C (IntK.iv zs)) => ElimS.entails lo hi N B C d f xs z zs W h hxs h' (by omega)
    have HSO := Lib.hid (fun (h : ElimM.entB N xs (z, zs) = true) vs (hs : SysS.satB N xs vs = true) => ent_sound h hs)
    have HE := Lib.hid (fun vs (hs : SysS.satB N xs vs = true) => emp_sound hs)
    generalize ElimM.entB N xs (z, zs) = q at *
    have IM := Lib.hid IM
    have SP := Lib.hid SP
    clear hP
    go_wp2_with fail
    refine (Calls.mono (IM.out _ (RB_1.out.below (((Below.refl w1.heap.size w1).alloc (by first | (simp; done) | (simp; omega)) (Obj.cells #[Value.int .i64 N, Value.slice B xs.length d] 26)).alloc (by first | (simp; done) | (simp; omega)) (Obj.cells #[Value.int .i64 z, Value.slice C zs.length f] 29))) (RT_1.out.below (((Below.refl w1.heap.size w1).alloc (by first | (simp; done) | (simp; omega)) (Obj.cells #[Value.int .i64 N, Value.slice B xs.length d] 26)).alloc (by first | (simp; done) | (simp; omega)) (Obj.cells #[Value.int .i64 z, Value.slice C zs.length f] 29))))) ?_
    rintro e w2 ⟨rfl, b2⟩
    have hs2 : ((w1.alloc (Obj.cells #[Value.int .i64 N, Value.slice B xs.length d] 26)).alloc (Obj.cells #[Value.int .i64 z, Value.slice C zs.length f] 29)).heap.size ≤ w2.heap.size := b2.size
    simp only [World.size_alloc] at hs2
    have d2 : Below w1.heap.size w1 w2 := (((Below.refl w1.heap.size w1).alloc (by first | (simp; done) | (simp; omega)) (Obj.cells #[Value.int .i64 N, Value.slice B xs.length d] 26)).alloc (by first | (simp; done) | (simp; omega)) (Obj.cells #[Value.int .i64 z, Value.slice C zs.length f] 29)).trans (b2.mono (show w1.heap.size ≤ ((w1.alloc (Obj.cells #[Value.int .i64 N, Value.slice B xs.length d] 26)).alloc (Obj.cells #[Value.int .i64 z, Value.slice C zs.length f] 29)).heap.size by first | exact Nat.le_refl _ | (simp; done) | (simp; omega)))
    have B2 := Lib.hid (B1.out.trans (d2.mono B1.out.size))
    have RB_2 := Lib.hid (RB_1.out.below d2)
    have RT_2 := Lib.hid (RT_1.out.below d2)
    have HC_2 := Lib.hid (HC_1.out.keep d2)
    have Va_2 := Lib.hid (((Lvar.new w1 #[Value.int .i64 N, Value.slice B xs.length d] 26).alloc (Obj.cells #[Value.int .i64 z, Value.slice C zs.length f] 29)).below b2)
    have Vb_2 := Lib.hid ((Lvar.new (w1.alloc (Obj.cells #[Value.int .i64 N, Value.slice B xs.length d] 26)) #[Value.int .i64 z, Value.slice C zs.length f] 29).below b2)
    simp only [World.size_alloc] at Vb_2
    clear RB_1 RT_1 HC_1 b2 d2
    obtain ⟨i0, hi0, hz0, hz1, hz2⟩ := info_parts IntK.intInfo
    cases q with
    | false =>
      have c_Va_0 := Va_2.out.cell 0 _ rfl
      have c_Va_1 := Va_2.out.cell 1 _ rfl
      have lt_Va := Va_2.out.lt
      have c_Vb_0 := Vb_2.out.cell 0 _ rfl
      have c_Vb_1 := Vb_2.out.cell 1 _ rfl
      have lt_Vb := Vb_2.out.lt
      go_wp2_with fail
      refine (Calls.mono (SP.out _ RB_2.out RT_2.out)) ?_
      rintro e w3 ⟨rfl, b3⟩
      have hs3 : w2.heap.size ≤ w3.heap.size := b3.size
      have d3 : Below w2.heap.size w2 w3 := (Below.refl w2.heap.size w2).trans (b3.mono (show w2.heap.size ≤ w2.heap.size by first | exact Nat.le_refl _ | (simp; done) | (simp; omega)))
      have B3 := Lib.hid (B2.out.trans (d3.mono B2.out.size))
      have RB_3 := Lib.hid (RB_2.out.below d3)
      have RT_3 := Lib.hid (RT_2.out.below d3)
      have HC_3 := Lib.hid (HC_2.out.keep d3)
      have Va_3 := Lib.hid (Va_2.out.below d3)
      have Vb_3 := Lib.hid (Vb_2.out.below d3)
      clear RB_2 RT_2 HC_2 Va_2 Vb_2 c_Va_0 c_Va_1 lt_Va c_Vb_0 c_Vb_1 lt_Vb b3 d3
      have c_Va_0 := Va_3.out.cell 0 _ rfl
      have c_Va_1 := Va_3.out.cell 1 _ rfl
      have lt_Va := Va_3.out.lt
      have c_Vb_0 := Vb_3.out.cell 0 _ rfl
      have c_Vb_1 := Vb_3.out.cell 1 _ rfl
      have lt_Vb := Vb_3.out.lt
      go_wp2
      go_ret
      exact ⟨rfl, B3.out⟩
    | true =>
      have HS := Lib.hid (HSO.out rfl)
      have hswK := B2.out.size
      clear HSO IM SP
      go_wp2
      go_loopw [5] (fun i wr => ∃ k : Nat, k ≤ 12 ∧ i = .int .i64 k ∧ Below w2.heap.size w2 wr) (fun i _ => 20 - (intOf i).toNat)
      case atStart => exact ⟨0, by omega, rfl, Below.refl _ _⟩
      case round =>
        obtain ⟨k, hk, rfl, hb⟩ := hrel
        obtain ⟨wo, rfl⟩ : ∃ wo : World, wo = wr := ⟨_, rfl⟩
        have hbs := hb.size
        have HCR := Lib.hid (HC_2.out.keep hb)
        have VAR := Lib.hid (Va_2.out.below hb)
        have VBR := Lib.hid (Vb_2.out.below hb)
        have RBR := Lib.hid (RB_2.out.below hb)
        have RTR := Lib.hid (RT_2.out.below hb)
        have BR := Lib.hid (B2.out.trans (hb.mono B2.out.size))
        have HBR := Lib.hid hb
        clear hb
        by_cases hlt12 : k < 12
        · have hk12 : (k : Int) < 12 := by omega
          have s9 : Below wo.heap.size wo (wo.alloc (.cells #[] 3)) := (Below.refl _ _).alloc (Nat.le_refl _) _
          have O9 := Lib.hid (own_empty wo)
          go_upto_region 11 with fail
          generalize wo.alloc (.cells #[] 3) = w9 at *
          go_loopw [6, 7] (fun v i wx => ValRel wo N v i wx) (fun _ i _ => 20 - (intOf i).toNat)
          case atStart => exact ⟨0, [], by omega, Or.inr rfl, rfl, rfl, O9.out, s9⟩
          case round =>
            obtain ⟨j, vs, hj, hjN, rfl, hlen, hown, hb⟩ := hrel
            have HO := Lib.hid hown
            have HL := Lib.hid hlen
            have hbase := hb.size
            have VR := Lib.hid (VAR.out.below hb)
            have va0 := VR.out.cell 0 (.int .i64 N) rfl
            have HB := Lib.hid hb
            clear hown s9 hb O9
            by_cases hlt : (j : Int) < N
            · skip
              have hk0 : (0 : Int) ≤ (j : Int) := by omega
              have hk1 : (j : Int) < N := hlt
              have hwm : IntKind.i64.wrap (2 * (k : Int)) = 2 * (k : Int) := IntWalk.i64_in _ (by omega)
              have hw0 : IntKind.i64.wrap (2 * (k : Int) + (j : Int)) = 2 * (k : Int) + (j : Int) := IntWalk.i64_in _ (by omega)
              have AT := Draw.at0 A n c (2 * k + j) hn (by omega) wr (HCR.out.keep HB.out)
              rw [show ((2 * k + j : Nat) : Int) = 2 * (k : Int) + (j : Int) by omega] at AT
              have AT := Lib.hid AT
              clear hlen
              go_wp2_with fail
              refine (Calls.mono AT.out) ?_
              rintro e w' ⟨x, hx, rfl, rfl⟩
              have hm0 : x.tmod 15 = x % 15 := Int.tmod_eq_emod_of_nonneg hx.1
              have hy : -5 ≤ x % 15 - 5 ∧ x % 15 - 5 ≤ 9 := by omega
              have hw : IntKind.i64.wrap (x % 15 - 5) = x % 15 - 5 := IntWalk.i64_in _ (by omega)
              go_wp2_with (at_builtin; go_loud (refine wpList_append_own _ rfl (.tmp 37) (.tmp 46) 27 rfl wo.heap.size 3 i0 (.int .i64 0) 1 8 Try.underlying27 hi0 hz0 hz1 hz2 rfl (by decide) _ _ _ rfl (HO.out.alloc _) ⟨wr.heap.size, 0, none⟩ 1 1 [.int .i64 (x % 15 - 5)] rfl rfl (cell_one_new _ _ _) (by simp [Value.oneCell']) (by unfold maxLen; have := HL.out; omega) (by have := HL.out; omega) (by simp <;> omega) ?_); intro v4 w4' hown4 hgrow _)
              have hb4 : Below wo.heap.size wo w4' := (HB.out.alloc HB.out.size _).grown hgrow (by simp <;> omega) (fun j hj => (HO.out.lt j hj).1)
              have hown5 : w4'.ownsRow wo.heap.size 3 1 v4 (vs ++ [x % 15 - 5]).length (IntK.iv (vs ++ [x % 15 - 5])) := by simpa [IntK.iv] using hown4
              have hl5 : (vs ++ [x % 15 - 5]).length = j + 1 := by have := HL.out; simp; omega
              clear hown4 hgrow hm0 hw hy
              generalize vs ++ [x % 15 - 5] = vs2 at *
              have HN5 := Lib.hid hl5
              clear hl5
              go_wp2
              go_roundw
              case rel => exact ⟨j + 1, vs2, by omega, Or.inl (by omega), by go_num, HN5.out, hown5, hb4⟩
              case measure => simp [intOf]; omega
            · have hk' : vs.length ≤ 1000000000 := by omega
              obtain ⟨A5, c5, e5, r5, f5, _, _⟩ := of_own HO.out
              subst e5
              have hlz : decide ((j : Int) < N) = false := decide_eq_false hlt
              have E1 := Lib.hid (LinS.eval _ _ _ _ z C A5 f c5 zs vs wr (RTR.out.below HB.out) r5 (by omega) hk')
              have HV := Lib.hid (HS.out vs)
              have HM := Lib.hid (HE.out vs)
              have LbR := Lib.hid (VBR.out.below HB.out)
              have u0 := LbR.out.cell 0 (.int .i64 z) rfl
              have u1 := LbR.out.cell 1 (.slice C zs.length f) rfl
              have SS := Lib.hid (fun W (h : Below wr.heap.size wr W) => modelSat _ _ N B A5 d c5 xs vs W ((RBR.out.below HB.out).below h) hxs (r5.below h) hk')
              have IE := Lib.hid (fun W (h : Below wr.heap.size wr W) => ElimI.isEmpty N B d xs W ((RBR.out.below HB.out).below h) hxs)
              generalize (evalL z zs vs).getD 0 = p at *
              generalize (evalL z zs vs).isSome = p2 at *
              clear f5 hlen
              go_wp2_with fail
              refine (Calls.mono E1.out) ?_
              rintro e w10 ⟨rfl, b10⟩
              have VA10 := Lib.hid (VR.out.below b10)
              have H10 := Lib.hid (HBR.out.trans ((HB.out.trans (b10.mono HB.out.size)).mono HBR.out.size))
              have a0 := VA10.out.cell 0 (.int .i64 N) rfl
              have a1 := VA10.out.cell 1 (.slice B xs.length d) rfl
              have S1 := Lib.hid (SS.out w10 b10)
              have D10 := Lib.hid b10
              generalize SysS.satB N xs vs = sa at *
              clear b10 u0 u1 va0 r5 LbR
              cases sa with
              | false =>
                go_wp2_with fail
                refine (Calls.mono S1.out) ?_
                rintro e w11 ⟨rfl, b11⟩
                have H11 := Lib.hid (H10.out.trans (b11.mono H10.out.size))
                clear b11
                go_wp2
                go_roundw
                case rel => exact ⟨k + 1, by omega, by go_num, H11.out⟩
                case measure => simp [intOf]; omega
              | true =>
                have hp := HV.out rfl
                have hem := HM.out rfl
                have hpd : decide (p < 0) = false := decide_eq_false (by omega)
                go_wp2_with fail
                refine (Calls.mono S1.out) ?_
                rintro e w11 ⟨rfl, b11⟩
                have H11 := Lib.hid (H10.out.trans (b11.mono H10.out.size))
                have VA11 := Lib.hid (VA10.out.below b11)
                have S2 := IE.out w11 (D10.out.trans (b11.mono D10.out.size))
                rw [hem] at S2
                have S2 := Lib.hid S2
                clear b11 hp a0 a1
                have a0 := VA11.out.cell 0 (.int .i64 N) rfl
                have a1 := VA11.out.cell 1 (.slice B xs.length d) rfl
                go_wp2_with fail
                refine (Calls.mono S2.out) ?_
                rintro e w12 ⟨rfl, b12⟩
                have H12 := Lib.hid (H11.out.trans (b12.mono H11.out.size))
                clear b12
                go_wp2
                go_roundw
                case rel => exact ⟨k + 1, by omega, by go_num, H12.out⟩
                case measure => simp [intOf]; omega
        · have hk12 : decide ((k : Int) < 12) = false := by simp; omega
          go_wp2_with fail
          refine (Calls.mono (Draw.drawIsEmptySystem A n c hn _ HCR.out)) ?_
          rintro e w13 ⟨N2, B2, d2, ys, rfl, hl2, hl9, hA2, b13⟩
          have hl2' := Draw.linsSize_le (m := 9) hl9
          have hys : linsSize ys ≤ 1000000000 := by omega
          have a14 : Below w13.heap.size w13 (w13.alloc (Obj.cells #[Value.int .i64 N2, Value.slice B2 ys.length d2] 26)) := (Below.refl _ _).alloc (Nat.le_refl _) _
          have B13 := BR.out.trans (b13.mono BR.out.size)
          have B14 := Lib.hid (B13.trans (a14.mono B13.size))
          have A14 := Lib.hid (hA2.below a14)
          have V14 := Lib.hid (Lvar.new w13 #[Value.int .i64 N2, Value.slice B2 ys.length d2] 26)
          clear hA2 a14 B13 b13
          go_upto_region 18 with fail
          generalize w13.alloc (Obj.cells #[Value.int .i64 N2, Value.slice B2 ys.length d2] 26) = w14 at *
          have c_Vt_0 := V14.out.cell 0 _ rfl
          have c_Vt_1 := V14.out.cell 1 _ rfl
          have lt_Vt := V14.out.lt
          go_wp2_with fail
          go_region_held3 (fun w' => w'.cell? ⟨w13.heap.size, 0, none⟩ = some (Value.int .i64 N2) ∧ w'.cell? ⟨w13.heap.size, 1, none⟩ = some (Value.slice B2 ys.length d2))
            (first | exact ⟨(((V14.out.below (Below.refl _ _).drew).below b15).below b16).cell 0 _ rfl, (((V14.out.below (Below.refl _ _).drew).below b15).below b16).cell 1 _ rfl⟩ | exact ⟨((V14.out.below (Below.refl _ _).drew).below b15).cell 0 _ rfl, ((V14.out.below (Below.refl _ _).drew).below b15).cell 1 _ rfl⟩ | go_keep)
            (first
              | (go_at_call 15; refine (Calls.mono (ElimI.isEmpty N2 B2 d2 ys _ (A14.out.below (Below.refl _ _).drew) hys)) ?_; rintro e w15 ⟨rfl, b15⟩)
              | (go_at_call 16; refine (Calls.mono (ElimS.isEmpty N2 B2 d2 ys _ ((A14.out.below (Below.refl _ _).drew).below b15) hys)) ?_; rintro e w16 ⟨rfl, b16⟩))
          have h15 : w14.heap.size ≤ w15.heap.size := b15.size
          have h16 : w15.heap.size ≤ w16.heap.size := b16.size
          have d16 : Below w14.heap.size w14 w16 := (((Below.refl w14.heap.size w14).drew.trans (b15.mono (show w14.heap.size ≤ w14.heap.size by omega))).trans (b16.mono (show w14.heap.size ≤ w15.heap.size by omega)))
          have hs16 := d16.size
          have B16 := Lib.hid (B14.out.trans (d16.mono B14.out.size))
          have Vt_16 := Lib.hid (V14.out.below d16)
          have AT_16 := Lib.hid (A14.out.below d16)
          clear V14 A14 c_Vt_0 c_Vt_1 lt_Vt b15 h15 b16 h16 d16
          have hee : (ElimM.empB N2 ys == ElimM.empB N2 ys) = true := by simp
          have c_Vt_0 := Vt_16.out.cell 0 _ rfl
          have c_Vt_1 := Vt_16.out.cell 1 _ rfl
          have lt_Vt := Vt_16.out.lt
          go_wp2
          go_ret
          exact ⟨rfl, B16.out⟩
  · go_enter Try.func4, Try.ntmps4
    go_wp2_with fail
    refine (Draw.great A n c hn _).mono ?_
    rintro e w' ⟨rfl, rfl⟩
    go_wp2
    go_ret
    exact ⟨rfl, Below.refl _ _⟩

set_option maxRecDepth 100000 in
theorem lifted (os : Os) (started : os.Started) (H : Type) (enc : TypeId × Value → H) :
    ReturnsInHanded {} Try.checked os 4 .any (Rows.fnEntailedSpec.pre6 enc Try.prog Try.f4 Rows.fnEntailedRow.domain false) (Rows.fnEntailedSpec.post enc Try.prog Try.f4 false true false false) := by
  refine returnsInHanded_of_change (C := Try.checked) Frame.own started (by kernel_rfl) Try.func4
    (ChangeSpec.witness6 (enc := enc) (C := Try.checked) false ⟨#[], #[.slice none 0 0], []⟩ 8 (by kernel_rfl) (by kernel_rfl) (by kernel_rfl) (by kernel_rfl)) ?_
  intro W base args ds gs before hval0 hW _ _
  have hW' := hW
  have hval : ∀ (j : Nat) t v, Try.f4.params[j]? = some t → args[j]? = some v → Value.okWide Try.prog W .any base t v := hval0
  obtain ⟨p, q, hA0, hV, rfl, hfz, hnd⟩ := hW
  have hA : DataW.TrodAll enc Try.prog W 0 (fun _ => true) true Try.f4.params.toList args.toList ds p := hA0
  rw [Try.params4] at hA hval
  obtain ⟨v0, d0, rfl, rfl, h0⟩ := trodAll_one hA
  have hlt := fun x hx => hW'.lt x hx
  obtain ⟨rfl, rfl⟩ := trodVars_none hV
  obtain ⟨ab, nb, cb, rfl⟩ := okWide_slice Try.underlying22 (hval 0 22 v0 rfl rfl)
  obtain ⟨hb, hlb⟩ := Frame.open_code (W := W) (by kernel_rfl) Try.underlying22 Try.underlying5 h0 (fun x hx => hlt x (by simp [hx]))
  refine (walk ab nb cb W hb).mono fun e W' ⟨he, hb⟩ => ?_
  subst he
  exact ⟨_, rfl, Frame.law_post (tb := 4) Frame.laidOut (by kernel_rfl) (by kernel_rfl) (by kernel_rfl) Try.underlying4 hW' rfl hb⟩

theorem proved : Rows.FnEntailedSaid :=
  OpenClaim.holds_of_wide 4 Try.f4 rfl rfl rfl rfl rfl rfl rfl ⟨rfl, rfl, rfl, rfl, rfl⟩ rfl rfl rfl rfl rfl (by kernel_rfl) Try.func4 (by kernel_rfl)
    (of_decide_eq_true (by kernel_rfl)) (by unfold Func.isWrapper; first | (rw [if_pos (by decide +kernel)]; kernel_rfl) | (rw [if_neg (by decide +kernel)]; exact ⟨rfl, rfl⟩))
    (fun os started H enc _ => lifted os started H enc)
end LawEntailed
end Go.Proofs.Ytmkelfjnjnjgbaa
