/- At every code, the constant and the variable that are drawn from it are those of the model and have their values, and a drawn expression has the value of the model: the law FnSimpleLins returns true. There is no condition. -/
import Derived.Test.YtkeejkpeniinkaaRows
import Derived.Test.YtkeejkpeniinkaaFrame
import Derived.Test.YtkeejkpeniinkaaFrameLin
import Derived.Test.YtkeejkpeniinkaaLinK
import Derived.Test.YtkeejkpeniinkaaLinImpl
import Derived.Test.YtkeejkpeniinkaaLinImpl2
import Derived.Test.YtkeejkpeniinkaaLinImpl3
import Derived.Test.YtkeejkpeniinkaaLinImpl4
import Derived.Test.YtkeejkpeniinkaaLinSpec
import Derived.Test.YtkeejkpeniinkaaLinSpec2
import Derived.Test.YtkeejkpeniinkaaLinSpec3
import Derived.Test.YtkeejkpeniinkaaFrameCode
import Derived.Test.YtkeejkpeniinkaaDraw4f
import Derived.Test.YtkeejkpeniinkaaLawKit4
import Derived.OwnWalk
import Derived.Deep.RegionHeld3
import Derived.SliceStrings
namespace Go.Proofs.Ytkeejkpeniinkaa
open Go.ChangeShapes Go.WideShapes Go.ChangeAt Go.RowKit
open Go.ChangeMaps (open_string shut_string)
namespace LawSimpleLins
open RowK LinM
/-- Both answers are the same expression. -/
theorem same {W : World} {lo hi lo2 hi2 : Nat} {A A2 : Option Addr} (T : Int × List Int) (c c2 : Nat) (hl : T.2.length ≤ 9) (h : Row lo hi W A (IntK.iv T.2)) (h2 : Row lo2 hi2 W A2 (IntK.iv T.2)) :
    Calls Try.prog 18 #[.agg #[.int .i64 T.1, .slice A T.2.length c], .agg #[.int .i64 T.1, .slice A2 T.2.length c2]] W fun e w' => e = .returned (.bool true) ∧ Below W.heap.size W w' := by
  have := LinS.equal lo hi lo2 hi2 T.1 T.1 A A2 c c2 T.2 T.2 W h h2 (by omega) (by omega)
  rwa [eqB_true rfl rfl] at this
theorem own_empty (w : World) : (w.alloc (.cells #[] 3)).ownsRow w.heap.size 3 1 (.slice (some ⟨w.heap.size, 0, none⟩) 0 0) 0 [] :=
  ⟨by simp, Or.inr ⟨_, 0, #[], rfl, Nat.le_refl _, heap_alloc_new _ _, by simp, by simp, by simp, by simp⟩⟩
theorem dot_zero : ∀ (m : Nat) (vs : List Int), dot (List.replicate m 0) vs = 0
  | 0, vs => by cases vs <;> rfl
  | m + 1, [] => rfl
  | m + 1, v :: vs => by rw [List.replicate_succ, dot, dot_zero m vs]; omega
theorem dot_one : ∀ (m j : Nat) (vs : List Int), j < m → vs.length = m → dot ((List.replicate m 0).set j 1) vs = vs.getD j 0
  | m + 1, 0, v :: vs, _, _ => by rw [List.replicate_succ, List.set_cons_zero, dot, dot_zero]; simp
  | m + 1, j + 1, v :: vs, h, hl => by
    rw [List.replicate_succ, List.set_cons_succ, dot, dot_one m j vs (by omega) (by simpa using hl)]
    simp
  | 0, _, _, h, _ => absurd h (Nat.not_lt_zero _)
  | m + 1, _, [], _, hl => by simp at hl
/-- The value of a variable. -/
theorem var_eval (i m : Int) (h : (varL i m).2.length ≠ 0) : 0 ≤ i ∧ i < (varL i m).2.length ∧ ∀ vs : List Int, vs.length = (varL i m).2.length → vs.all ArithM.inF = true → evalL (varL i m).1 (varL i m).2 vs = some (vs.getD i.toNat 0) := by
  unfold varL at h ⊢
  by_cases hc : cntB m = true ∧ 0 ≤ i ∧ i < m
  · rw [if_pos hc]
    simp only [List.length_set, List.length_replicate]
    refine ⟨hc.2.1, by omega, fun vs hl hf => ?_⟩
    have hv : vldB 0 ((List.replicate m.toNat 0).set i.toNat 1) vs.length = true := vldB_iff.2 ⟨by have := cntB_iff.1 hc.1; omega, by simp [hl], by decide, fun x hx => by
      rcases List.mem_or_eq_of_mem_set hx with hx | rfl
      · rw [(List.mem_replicate.1 hx).2]; decide
      · decide⟩
    rw [evalL, if_pos ⟨hv, hf⟩, dot_one m.toNat i.toNat vs (by omega) hl]
    simp
  · rw [if_neg hc] at h
    simp at h

set_option maxHeartbeats 4000000 in
set_option maxRecDepth 100000 in
theorem walk (A : Option Addr) (n c : Nat) (w0 : World) (hc : Draw.Code w0 A n) :
    Calls Try.prog 4 #[.slice A n c] w0 fun e w' => e = .returned (.bool true) ∧ Below w0.heap.size w0 w' := by
  by_cases hn : n ≤ 1048576
  · go_enter Try.func4, Try.ntmps4
    go_wp2_with fail
    refine (Draw.small A n c hn _).mono ?_
    rintro e w' ⟨rfl, rfl⟩
    go_wp2_with fail
    refine (Calls.mono (Draw.drawConst A n c hn _ hc)) ?_
    rintro e w1 ⟨k, n2, hk, hn2, rfl, b1⟩
    have HC1 := Lib.hid (hc.keep b1)
    have B1 := Lib.hid b1
    clear hk hn2 b1 hc
    go_wp2_with fail
    refine (Calls.mono (Draw.drawVar A n c hn _ HC1.out)) ?_
    rintro e w2 ⟨i, m, hi, hm, rfl, b2⟩
    have HC2 := Lib.hid (HC1.out.keep b2)
    have B2 := Lib.hid (B1.out.trans (b2.mono B1.out.size))
    unfold Draw.I64 at hi
    have CI := Lib.hid (fun W => LinI.const k n2 W)
    have CS := Lib.hid (fun W => LinS.const k n2 W)
    have VI := Lib.hid (fun W => LinI.var i m hi.1 hi.2 W)
    have VS := Lib.hid (fun W => LinS.var i m W)
    have hCl := constL_small k n2
    have hTl := varL_small i m
    have HE := Lib.hid (fun h => var_eval i m h)
    generalize constL k n2 = C at *
    generalize varL i m = T at *
    have hC9 : C.2.length ≤ 9 := by omega
    have hT9 : T.2.length ≤ 9 := by omega
    clear hi hm b2 HC1 B1
    go_wp2_with fail
    refine (Calls.mono (CI.out _)) ?_
    rintro e w3 ⟨G, cg, rfl, rG, fG, b3⟩
    have B3 := Lib.hid (B2.out.trans (b3.mono B2.out.size))
    have s3 : Below w3.heap.size w3 (w3.alloc (Obj.cells #[Value.int .i64 C.1, Value.slice G C.2.length cg] 26)) := (Below.refl _ _).alloc (Nat.le_refl _) _
    have La := Lib.hid (Lvar.new w3 #[Value.int .i64 C.1, Value.slice G C.2.length cg] 26)
    have RG := Lib.hid (rG.below s3)
    have HC3 := Lib.hid ((HC2.out.keep b3).keep s3)
    have BA := Lib.hid (B3.out.trans (s3.mono B3.out.size))
    clear rG fG b3 HC2 CI
    go_wp2_with fail
    refine (Calls.mono (VI.out _)) ?_
    rintro e w4 ⟨D, cd, rfl, rD, fD, b4⟩
    have hs4 := b4.size
    simp only [World.size_alloc] at hs4
    have t4 : Below w4.heap.size w4 (w4.alloc (Obj.cells #[Value.int .i64 T.1, Value.slice D T.2.length cd] 26)) := (Below.refl _ _).alloc (Nat.le_refl _) _
    have La5 := Lib.hid ((La.out.below b4).below t4)
    have Lb5 := Lib.hid (Lvar.new w4 #[Value.int .i64 T.1, Value.slice D T.2.length cd] 26)
    have RG5 := Lib.hid ((RG.out.below b4).below t4)
    have RD5 := Lib.hid (rD.below t4)
    have HC5 := Lib.hid ((HC3.out.keep b4).keep t4)
    have B4 := Lib.hid (BA.out.trans (b4.mono BA.out.size))
    have B5 := Lib.hid (B4.out.trans (t4.mono B4.out.size))
    have hp4 : w4.heap.size < (w4.alloc (Obj.cells #[Value.int .i64 T.1, Value.slice D T.2.length cd] 26)).heap.size := by simp
    clear rD fD b4 t4 s3 La RG HC3 BA B4 B3 B2 VI
    go_wp2_with fail
    generalize w4.alloc (Obj.cells #[Value.int .i64 T.1, Value.slice D T.2.length cd] 26) = w5 at *
    have p5a := La5.out.below (Below.refl _ _).drew
    have p5b := Lb5.out.below (Below.refl _ _).drew
    have p5a0 := p5a.cell 0 (.int .i64 C.1) rfl
    have p5a1 := p5a.cell 1 (.slice G C.2.length cg) rfl
    have p5b0 := p5b.cell 0 (.int .i64 T.1) rfl
    have p5b1 := p5b.cell 1 (.slice D T.2.length cd) rfl
    go_region_held3 (fun w' => w'.cell? ⟨w3.heap.size, 0, none⟩ = some (Value.int .i64 C.1) ∧ w'.cell? ⟨w3.heap.size, 1, none⟩ = some (Value.slice G C.2.length cg) ∧ w'.cell? ⟨w4.heap.size, 0, none⟩ = some (Value.int .i64 T.1) ∧ w'.cell? ⟨w4.heap.size, 1, none⟩ = some (Value.slice D T.2.length cd))
      (first | with_reducible exact ⟨p9a0, p9a1, p9b0, p9b1⟩ | with_reducible exact ⟨p8a0, p8a1, p8b0, p8b1⟩ | with_reducible exact ⟨p7a0, p7a1, p7b0, p7b1⟩ | with_reducible exact ⟨p6a0, p6a1, p6b0, p6b1⟩ | with_reducible exact ⟨p5a0, p5a1, p5b0, p5b1⟩ | go_keep)
      (first
        | (go_at_call_of 18 (Value.agg #[.int .i64 T.1, .slice D T.2.length cd]); refine (Calls.mono (same T (A := D) (A2 := K) cd ck hT9 ((((RD5.out.below (Below.refl _ _).drew).below b6).below b7).below b8) rK)) ?_; rintro e w9 ⟨rfl, b9⟩; (have p9a := (((((La5.out.below (Below.refl _ _).drew).below b6).below b7).below b8).below b9)); (have p9b := (((((Lb5.out.below (Below.refl _ _).drew).below b6).below b7).below b8).below b9)); (have p9a0 := p9a.cell 0 (.int .i64 C.1) rfl); (have p9a1 := p9a.cell 1 (.slice G C.2.length cg) rfl); (have p9b0 := p9b.cell 0 (.int .i64 T.1) rfl); (have p9b1 := p9b.cell 1 (.slice D T.2.length cd) rfl))
        | (go_at_call 20; refine (Calls.mono (VS.out w7)) ?_; rintro e w8 ⟨K, ck, rfl, rK, fK, b8⟩; (have p8a := ((((La5.out.below (Below.refl _ _).drew).below b6).below b7).below b8)); (have p8b := ((((Lb5.out.below (Below.refl _ _).drew).below b6).below b7).below b8)); (have p8a0 := p8a.cell 0 (.int .i64 C.1) rfl); (have p8a1 := p8a.cell 1 (.slice G C.2.length cg) rfl); (have p8b0 := p8b.cell 0 (.int .i64 T.1) rfl); (have p8b1 := p8b.cell 1 (.slice D T.2.length cd) rfl))
        | (go_at_call_of 18 (Value.agg #[.int .i64 C.1, .slice G C.2.length cg]); refine (Calls.mono (same C (A := G) (A2 := H) cg ch hC9 ((RG5.out.below (Below.refl _ _).drew).below b6) rH)) ?_; rintro e w7 ⟨rfl, b7⟩; (have p7a := (((La5.out.below (Below.refl _ _).drew).below b6).below b7)); (have p7b := (((Lb5.out.below (Below.refl _ _).drew).below b6).below b7)); (have p7a0 := p7a.cell 0 (.int .i64 C.1) rfl); (have p7a1 := p7a.cell 1 (.slice G C.2.length cg) rfl); (have p7b0 := p7b.cell 0 (.int .i64 T.1) rfl); (have p7b1 := p7b.cell 1 (.slice D T.2.length cd) rfl))
        | (go_at_call 19; refine (Calls.mono (CS.out _)) ?_; rintro e w6 ⟨H, ch, rfl, rH, fH, b6⟩; (have p6a := ((La5.out.below (Below.refl _ _).drew).below b6)); (have p6b := ((Lb5.out.below (Below.refl _ _).drew).below b6)); (have p6a0 := p6a.cell 0 (.int .i64 C.1) rfl); (have p6a1 := p6a.cell 1 (.slice G C.2.length cg) rfl); (have p6b0 := p6b.cell 0 (.int .i64 T.1) rfl); (have p6b1 := p6b.cell 1 (.slice D T.2.length cd) rfl)))
    have h6 : w5.heap.size ≤ w6.heap.size := b6.size
    have h7 : w6.heap.size ≤ w7.heap.size := b7.size
    have h8 : w7.heap.size ≤ w8.heap.size := b8.size
    have h9 : w8.heap.size ≤ w9.heap.size := b9.size
    have d9 : Below w5.heap.size w5 w9 := ((((Below.refl w5.heap.size w5).drew.trans (b6.mono (show w5.heap.size ≤ w5.heap.size by omega))).trans (b7.mono (show w5.heap.size ≤ w6.heap.size by omega))).trans (b8.mono (show w5.heap.size ≤ w7.heap.size by omega))).trans (b9.mono (show w5.heap.size ≤ w8.heap.size by omega))
    have B9 := Lib.hid (B5.out.trans (d9.mono B5.out.size))
    have RD9 := Lib.hid (RD5.out.below d9)
    have Lb9 := Lib.hid (Lb5.out.below d9)
    have HC9 := Lib.hid (HC5.out.keep d9)
    clear p5a p5a0 p5a1 p5b p5b0 p5b1 p6a p6a0 p6a1 p6b p6b0 p6b1 p7a p7a0 p7a1 p7b p7b0 p7b1 p8a p8a0 p8a1 p8b p8b0 p8b1 p9a p9a0 p9a1 p9b p9b0 p9b1 b6 b7 b8 b9 d9 B5 La5 Lb5 RG5 RD5 HC5 rH fH rK fK CS VS
    have v0 := Lb9.out.cell 0 (.int .i64 T.1) rfl
    have v1 := Lb9.out.cell 1 (.slice D T.2.length cd) rfl
    obtain ⟨i0, hi0, hz0, hz1, hz2⟩ := info_parts IntK.intInfo
    have sA : Below w9.heap.size w9 (w9.alloc (.cells #[] 3)) := (Below.refl _ _).alloc (Nat.le_refl _) _
    have OA := Lib.hid (own_empty w9)
    go_wp2
    clear v0 v1
    generalize w9.alloc (.cells #[] 3) = wA at *
    go_loopw [9, 10] (fun v i wr => ∃ (j : Nat) (vs : List Int), j ≤ T.2.length ∧ i = .int .i64 j ∧ vs.length = j ∧ Draw.vals 0 8 vs ∧ wr.ownsRow w9.heap.size 3 1 v vs.length (IntK.iv vs) ∧ Below w9.heap.size w9 wr) (fun _ i _ => T.2.length - (intOf i).toNat)
    case atStart => exact ⟨0, [], Nat.zero_le _, rfl, rfl, (fun x hx => by cases hx), OA.out, sA⟩
    case round =>
      obtain ⟨j, vs, hj, rfl, hlen, hvs, hown, hb⟩ := hrel
      have HS := Lib.hid hvs
      have HO := Lib.hid hown
      have HL := Lib.hid hlen
      have hbase := hb.size
      have VR := Lib.hid (Lb9.out.below hb)
      have v0 := VR.out.cell 0 (.int .i64 T.1) rfl
      have v1 := VR.out.cell 1 (.slice D T.2.length cd) rfl
      have HB := Lib.hid hb
      clear hvs hown sA hb
      by_cases hlt : j < T.2.length
      · have hk9 : vs.length ≤ 9 := by omega
        have hk0 : (0 : Int) ≤ (j : Int) := by omega
        have hk1 : (j : Int) < (T.2.length : Int) := by omega
        have AT := Lib.hid (Draw.at0 A n c j hn (by omega) wr (HC9.out.keep HB.out))
        clear hlen
        go_wp2_with fail
        refine (Calls.mono AT.out) ?_
        rintro e w' ⟨x, hx, rfl, rfl⟩
        have hm0 : x.tmod 9 = x % 9 := Int.tmod_eq_emod_of_nonneg hx.1
        have hy : 0 ≤ x % 9 ∧ x % 9 ≤ 8 := by omega
        go_wp2_with (at_builtin; go_loud (refine wpList_append_own _ rfl (.tmp 59) (.tmp 64) 24 rfl w9.heap.size 3 i0 (.int .i64 0) 1 8 Try.underlying24 hi0 hz0 hz1 hz2 rfl (by decide) _ _ _ rfl (HO.out.alloc _) ⟨wr.heap.size, 0, none⟩ 1 1 [.int .i64 (x % 9)] rfl rfl (cell_one_new _ _ _) (by simp [Value.oneCell']) (by unfold maxLen; omega) (by omega) (by simp <;> omega) ?_); intro v4 w4' hown4 hgrow _)
        have hb4 : Below w9.heap.size w9 w4' := (HB.out.alloc HB.out.size _).grown hgrow (by simp <;> omega) (fun j hj => (HO.out.lt j hj).1)
        have hown5 : w4'.ownsRow w9.heap.size 3 1 v4 (vs ++ [x % 9]).length (IntK.iv (vs ++ [x % 9])) := by simpa [IntK.iv] using hown4
        have hvs5 := Draw.vals_snoc HS.out hy
        have hl5 : (vs ++ [x % 9]).length = j + 1 := by have := HL.out; simp; omega
        clear hown4 hgrow hm0 hy
        generalize vs ++ [x % 9] = vs2 at *
        have HN5 := Lib.hid hl5
        clear hl5
        go_wp2
        go_roundw
        case rel => exact ⟨j + 1, vs2, by omega, by go_num, HN5.out, hvs5, hown5, hb4⟩
        case measure => simp [intOf]; omega
      · have hk' : vs.length = T.2.length := by omega
        obtain ⟨A5, c5, e5, r5, f5, _, _⟩ := of_own HO.out
        subst e5
        have hlz : decide ((j : Int) < (T.2.length : Int)) = false := decide_eq_false (by omega)
        have E1 := Lib.hid (LinI.eval _ _ _ _ T.1 D A5 cd c5 T.2 vs wr (RD9.out.below HB.out) r5 (by omega) (by omega))
        have BR := Lib.hid (B9.out.trans (HB.out.mono B9.out.size))
        have HCR := Lib.hid (HC9.out.keep HB.out)
        have R5 := Lib.hid r5
        have HV := Lib.hid (Draw.vals_fit HS.out (by omega) (by omega))
        have HK := Lib.hid hk'
        clear r5 f5 hlen hk'
        by_cases h0 : T.2.length = 0
        · obtain rfl : vs = [] := List.eq_nil_of_length_eq_zero (by rw [HK.out]; exact h0)
          generalize (evalL T.1 T.2 []).getD 0 = ev at E1
          generalize (evalL T.1 T.2 []).isSome = eo at E1
          clear h0 HE
          go_wp2_with fail
          refine (Calls.mono E1.out) ?_
          rintro e wB ⟨rfl, bB⟩
          have BB := Lib.hid (BR.out.trans (bB.mono BR.out.size))
          have HCB := Lib.hid (HCR.out.keep bB)
          have hsB := bB.size
          go_wp2_with fail
          refine (Calls.mono (Draw.drawEval A n c hn _ HCB.out)) ?_
          rintro e w11 ⟨z, zs, B, d, us, F, f, lo, hi, lo2, hi2, rfl, hP, hd, hu, rB, rF, b11⟩
          have hz9 : zs.length ≤ 9 := hP.2.1
          have hs11 := b11.size
          have s12 : Below w11.heap.size w11 (w11.alloc (Obj.cells #[Value.int .i64 z, Value.slice B zs.length d] 26)) := (Below.refl _ _).alloc (Nat.le_refl _) _
          have I1 := Lib.hid (fun W (h : Below w11.heap.size w11 W) => LinI.eval lo hi lo2 hi2 z B F d f zs us W (rB.below h) (rF.below h) (by omega) (by omega))
          have I2 := Lib.hid (fun W (h : Below w11.heap.size w11 W) => LinS.eval lo hi lo2 hi2 z B F d f zs us W (rB.below h) (rF.below h) (by omega) (by omega))
          generalize (evalL z zs us).getD 0 = pv at I1 I2
          generalize (evalL z zs us).isSome = po at I1 I2
          have BL := Lib.hid (BB.out.trans (b11.mono BB.out.size))
          have HS12 := Lib.hid s12
          have Ll := Lib.hid (Lvar.new w11 #[Value.int .i64 z, Value.slice B zs.length d] 26)
          clear hP hd rB rF s12
          go_wp2_with fail
          refine (Calls.mono (I1.out _ HS12.out)) ?_
          rintro e w12 ⟨rfl, b12⟩
          have v0' := (Ll.out.below b12).cell 0 _ rfl
          have v1' := (Ll.out.below b12).cell 1 _ rfl
          have s13 : Below w11.heap.size w11 w12 := HS12.out.trans (b12.mono (by simp))
          go_wp2_with fail
          refine (Calls.mono (I2.out _ s13)) ?_
          rintro e w13 ⟨rfl, b13⟩
          have B12 := Lib.hid (BL.out.trans (s13.mono BL.out.size))
          have B13 := Lib.hid (B12.out.trans (b13.mono B12.out.size))
          have s14 : Below w11.heap.size w11 w13 := s13.trans (b13.mono s13.size)
          have b14 : Below wr.heap.size wr w13 := (bB.trans (b11.mono hsB)).trans (s14.mono (Nat.le_trans hsB hs11))
          clear v0' v1' s13 s14 b12 b13 b11 bB BL Ll HS12 I1 I2 BB HCB
          go_wp2
          go_ret
          exact ⟨by simp, B13.out⟩
        · obtain ⟨hi1, hi2, hev⟩ := HE.out h0
          rw [hev vs HK.out HV.out] at E1
          simp only [Option.getD_some, Option.isSome_some] at E1
          obtain ⟨ix, rfl⟩ := Int.eq_ofNat_of_zero_le hi1
          have hix : ix < vs.length := by rw [HK.out]; omega
          have hix0 : (0 : Int) ≤ (ix : Int) := by omega
          have hix1 : (ix : Int) < (vs.length : Int) := by omega
          have hne : ((vs.length : Int) == 0) = false := beq_eq_false_iff_ne.2 (by omega)
          have hne2 : (vs.length == 0) = false := beq_eq_false_iff_ne.2 (by omega)
          obtain ⟨ab, ao, ea, hab, hcx⟩ := IntK.at_ R5.out hix
          subst ea
          have hy : vs.getD (ix : Int).toNat 0 = vs[ix] := by simp [List.getD, List.getElem?_eq_getElem hix]
          rw [hy] at E1
          generalize vs[ix] = y at *
          have HX := Lib.hid hcx
          have hab2 : ab < wr.heap.size := by omega
          have hab3 := Lib.hid hab
          clear h0 HE hev hy hcx hi1 hi2 hab
          go_wp2_with fail
          refine (Calls.mono E1.out) ?_
          rintro e wB ⟨rfl, bB⟩
          have BB := Lib.hid (BR.out.trans (bB.mono BR.out.size))
          have HCB := Lib.hid (HCR.out.keep bB)
          have hsB := bB.size
          go_wp2_with fail
          refine (Calls.mono (Draw.drawEval A n c hn _ HCB.out)) ?_
          rintro e w11 ⟨z, zs, B, d, us, F, f, lo, hi, lo2, hi2, rfl, hP, hd, hu, rB, rF, b11⟩
          have hz9 : zs.length ≤ 9 := hP.2.1
          have hs11 := b11.size
          have s12 : Below w11.heap.size w11 (w11.alloc (Obj.cells #[Value.int .i64 z, Value.slice B zs.length d] 26)) := (Below.refl _ _).alloc (Nat.le_refl _) _
          have I1 := Lib.hid (fun W (h : Below w11.heap.size w11 W) => LinI.eval lo hi lo2 hi2 z B F d f zs us W (rB.below h) (rF.below h) (by omega) (by omega))
          have I2 := Lib.hid (fun W (h : Below w11.heap.size w11 W) => LinS.eval lo hi lo2 hi2 z B F d f zs us W (rB.below h) (rF.below h) (by omega) (by omega))
          generalize (evalL z zs us).getD 0 = pv at I1 I2
          generalize (evalL z zs us).isSome = po at I1 I2
          have BL := Lib.hid (BB.out.trans (b11.mono BB.out.size))
          have HS12 := Lib.hid s12
          have Ll := Lib.hid (Lvar.new w11 #[Value.int .i64 z, Value.slice B zs.length d] 26)
          clear hP hd rB rF s12
          go_wp2_with fail
          refine (Calls.mono (I1.out _ HS12.out)) ?_
          rintro e w12 ⟨rfl, b12⟩
          have v0' := (Ll.out.below b12).cell 0 _ rfl
          have v1' := (Ll.out.below b12).cell 1 _ rfl
          have s13 : Below w11.heap.size w11 w12 := HS12.out.trans (b12.mono (by simp))
          go_wp2_with fail
          refine (Calls.mono (I2.out _ s13)) ?_
          rintro e w13 ⟨rfl, b13⟩
          have B12 := Lib.hid (BL.out.trans (s13.mono BL.out.size))
          have B13 := Lib.hid (B12.out.trans (b13.mono B12.out.size))
          have s14 : Below w11.heap.size w11 w13 := s13.trans (b13.mono s13.size)
          have b14 : Below wr.heap.size wr w13 := (bB.trans (b11.mono hsB)).trans (s14.mono (Nat.le_trans hsB hs11))
          clear v0' v1' s13 s14 b12 b13 b11 bB BL Ll HS12 I1 I2 BB HCB
          have gx := (b14.cell (p := ⟨ab, ao + ix, none⟩) (by show ab < _; omega)).trans HX.out
          clear b14
          go_wp2
          go_ret
          exact ⟨by simp, B13.out⟩
  · go_enter Try.func4, Try.ntmps4
    go_wp2_with fail
    refine (Draw.great A n c hn _).mono ?_
    rintro e w' ⟨rfl, rfl⟩
    go_wp2
    go_ret
    exact ⟨rfl, Below.refl _ _⟩

set_option maxRecDepth 100000 in
theorem lifted (os : Os) (started : os.Started) (H : Type) (enc : TypeId × Value → H) :
    ReturnsInHanded {} Try.checked os 4 .any (Rows.fnSimpleLinsSpec.pre6 enc Try.prog Try.f4 Rows.fnSimpleLinsRow.domain false) (Rows.fnSimpleLinsSpec.post enc Try.prog Try.f4 false true false false) := by
  refine returnsInHanded_of_change (C := Try.checked) Frame.own started (by kernel_rfl) Try.func4
    (ChangeSpec.witness6 (enc := enc) (C := Try.checked) false ⟨#[], #[.slice none 0 0], []⟩ 8 (by kernel_rfl) (by kernel_rfl) (by kernel_rfl) (by kernel_rfl)) ?_
  intro W base args ds gs before hval0 hW _ _
  have hW' := hW
  have hval : ∀ (j : Nat) t v, Try.f4.params[j]? = some t → args[j]? = some v → Value.okWide Try.prog W .any base t v := hval0
  obtain ⟨p, q, hA0, hV, rfl, hfz, hnd⟩ := hW
  have hA : DataW.TrodAll enc Try.prog W 0 (fun _ => true) true Try.f4.params.toList args.toList ds p := hA0
  rw [Try.params4] at hA hval
  obtain ⟨v0, d0, rfl, rfl, h0⟩ := trodAll_one hA
  have hlt := fun x hx => hW'.lt x hx
  obtain ⟨rfl, rfl⟩ := trodVars_none hV
  obtain ⟨ab, nb, cb, rfl⟩ := okWide_slice Try.underlying22 (hval 0 22 v0 rfl rfl)
  obtain ⟨hb, hlb⟩ := Frame.open_code (W := W) (by kernel_rfl) Try.underlying22 Try.underlying5 h0 (fun x hx => hlt x (by simp [hx]))
  refine (walk ab nb cb W hb).mono fun e W' ⟨he, hb⟩ => ?_
  subst he
  exact ⟨_, rfl, Frame.law_post (tb := 4) Frame.laidOut (by kernel_rfl) (by kernel_rfl) (by kernel_rfl) Try.underlying4 hW' rfl hb⟩

theorem proved : Rows.FnSimpleLinsSaid :=
  OpenClaim.holds_of_wide 4 Try.f4 rfl rfl rfl rfl rfl rfl rfl ⟨rfl, rfl, rfl, rfl, rfl⟩ rfl rfl rfl rfl rfl (by kernel_rfl) Try.func4 (by kernel_rfl)
    (of_decide_eq_true (by kernel_rfl)) (by unfold Func.isWrapper; first | (rw [if_pos (by decide +kernel)]; kernel_rfl) | (rw [if_neg (by decide +kernel)]; exact ⟨rfl, rfl⟩))
    (fun os started H enc _ => lifted os started H enc)
end LawSimpleLins
end Go.Proofs.Ytkeejkpeniinkaa
