import Derived.Test.YtnbgmhlhbcoicaaRows
import Derived.Test.YtnbgmhlhbcoicaaFrame
import Derived.Test.YtnbgmhlhbcoicaaFrameCode
import Derived.Test.YtnbgmhlhbcoicaaFarkCheck2
import Derived.Test.YtnbgmhlhbcoicaaFarkSpec2
import Derived.Test.YtnbgmhlhbcoicaaFarkMath
import Derived.Test.YtnbgmhlhbcoicaaDraw7e
import Derived.Test.YtnbgmhlhbcoicaaDraw7c
import Derived.Test.YtnbgmhlhbcoicaaSysImpl
import Derived.Test.YtnbgmhlhbcoicaaLawKit4
import Derived.OwnWalk
import Derived.Deep.RegionHeld3
import Derived.SliceStrings
/- At every code: if the certificate drawn from it is accepted, the drawn values that satisfy the system satisfy the target: the law FnFarkas returns true. There is no condition. -/
namespace Go.Proofs.Ytnbgmhlhbcoicaa
open Go.ChangeShapes Go.WideShapes Go.ChangeAt Go.RowKit
open Go.ChangeMaps (open_string shut_string)
namespace LawFarkas
open RowK LinM Mem FarkM
theorem modelSat (lo hi : Nat) (n : Int) (A B : Option Addr) (c d : Nat) (xs : List (Int × List Int)) (us : List Int) (w : World) (hA : SysK.Arg w A xs.length c xs) (hl : Mem.linsSize xs ≤ 1000000000) (hB : RowK.Row lo hi w B (IntK.iv us)) (hl2 : us.length ≤ 1000000000) :
    Calls Try.prog 17 #[.agg #[.int .i64 n, .slice A xs.length c], .slice B us.length d] w fun e w' => e = .returned (.bool (SysS.satB n xs us)) ∧ Below w.heap.size w w' := by
  obtain ⟨q, fp, h⟩ := hA
  exact SysS.satisfies q fp lo hi n A B c d xs us w h hl hB hl2
theorem any6_size {N : Int} {xs : List (Int × List Int)} (h : Draw.Any6 N xs) : linsSize xs ≤ 1000 := by
  have h1 := Draw.linsSize_le (m := 9) h.2.2
  have := h.2.1
  omega
theorem own_empty (w : World) : (w.alloc (.cells #[] 3)).ownsRow w.heap.size 3 1 (.slice (some ⟨w.heap.size, 0, none⟩) 0 0) 0 [] :=
  ⟨by simp, Or.inr ⟨_, 0, #[], rfl, Nat.le_refl _, heap_alloc_new _ _, by simp, by simp, by simp, by simp⟩⟩
/-- The values so far, in new memory. -/
def ValRel (w : World) (N : Int) (v i : Value) (wr : World) : Prop := ∃ (j : Nat) (vs : List Int), j ≤ 9 ∧ ((j : Int) ≤ N ∨ j = 0) ∧ i = .int .i64 j ∧ vs.length = j ∧ wr.ownsRow w.heap.size 3 1 v vs.length (IntK.iv vs) ∧ Below w.heap.size w wr

set_option maxHeartbeats 4000000 in
set_option maxRecDepth 100000 in
theorem walk (A : Option Addr) (n c : Nat) (w0 : World) (hc : Draw.Code w0 A n) :
    Calls Try.prog 3 #[.slice A n c] w0 fun e w' => e = .returned (.bool true) ∧ Below w0.heap.size w0 w' := by
  by_cases hn : n ≤ 1048576
  · skip
    have B0 := Lib.hid (Below.refl w0.heap.size w0)
    go_enter Try.func3, Try.ntmps3
    go_wp2_with fail
    refine (Draw.small A n c hn _).mono ?_
    rintro e w' ⟨rfl, rfl⟩
    go_wp2_with fail
    refine (Calls.mono (Draw.drawCheckFarkas A n c hn _ hc)) ?_
    rintro e w1 ⟨N, B, d, xs, z, zs, C, f, sc, ms, M, e0, lo, hi, lo', hi', rfl, hP, hz9, hm25, hA, hT, hM, b1⟩
    have HC_1 := Lib.hid (hc.keep b1)
    have hs1 : w0.heap.size ≤ w1.heap.size := b1.size
    have d1 : Below w0.heap.size w0 w1 := (Below.refl w0.heap.size w0).trans (b1.mono (show w0.heap.size ≤ w0.heap.size by first | exact Nat.le_refl _ | (simp; done) | (simp; omega)))
    have B1 := Lib.hid (B0.out.trans (d1.mono B0.out.size))
    clear b1 d1
    have RB_1 := Lib.hid hA
    have RT_1 := Lib.hid hT
    have RM_1 := Lib.hid hM
    clear hA hT hM
    have hsz := any6_size hP
    have hxs : linsSize xs ≤ 1000000000 := by omega
    have hN9 : N ≤ 9 := hP.1.2
    have hEQ : eqB sc sc ms ms = true := by simp [eqB]
    have HSO := Lib.hid (fun (h : checkF N xs (z, zs) sc ms = true) vs (hs : SysS.satB N xs vs = true) => check_sound h hs)
    clear hP
    go_wp2_with fail
    refine (Calls.mono (FarkI.checkFarkas _ _ _ _ N B M C d e0 f xs ms z zs sc _ (RB_1.out.below ((((Below.refl w1.heap.size w1).alloc (by first | (simp; done) | (simp; omega)) (Obj.cells #[Value.int .i64 N, Value.slice B xs.length d] 26)).alloc (by first | (simp; done) | (simp; omega)) (Obj.cells #[Value.int .i64 z, Value.slice C zs.length f] 29)).alloc (by first | (simp; done) | (simp; omega)) (Obj.cells #[Value.int .i64 sc, Value.slice M ms.length e0] 31))) hxs (RM_1.out.below ((((Below.refl w1.heap.size w1).alloc (by first | (simp; done) | (simp; omega)) (Obj.cells #[Value.int .i64 N, Value.slice B xs.length d] 26)).alloc (by first | (simp; done) | (simp; omega)) (Obj.cells #[Value.int .i64 z, Value.slice C zs.length f] 29)).alloc (by first | (simp; done) | (simp; omega)) (Obj.cells #[Value.int .i64 sc, Value.slice M ms.length e0] 31))) (by omega) (RT_1.out.below ((((Below.refl w1.heap.size w1).alloc (by first | (simp; done) | (simp; omega)) (Obj.cells #[Value.int .i64 N, Value.slice B xs.length d] 26)).alloc (by first | (simp; done) | (simp; omega)) (Obj.cells #[Value.int .i64 z, Value.slice C zs.length f] 29)).alloc (by first | (simp; done) | (simp; omega)) (Obj.cells #[Value.int .i64 sc, Value.slice M ms.length e0] 31))) (by omega))) ?_
    rintro e w2 ⟨rfl, b2⟩
    have hs2 : (((w1.alloc (Obj.cells #[Value.int .i64 N, Value.slice B xs.length d] 26)).alloc (Obj.cells #[Value.int .i64 z, Value.slice C zs.length f] 29)).alloc (Obj.cells #[Value.int .i64 sc, Value.slice M ms.length e0] 31)).heap.size ≤ w2.heap.size := b2.size
    simp only [World.size_alloc] at hs2
    have d2 : Below w1.heap.size w1 w2 := ((((Below.refl w1.heap.size w1).alloc (by first | (simp; done) | (simp; omega)) (Obj.cells #[Value.int .i64 N, Value.slice B xs.length d] 26)).alloc (by first | (simp; done) | (simp; omega)) (Obj.cells #[Value.int .i64 z, Value.slice C zs.length f] 29)).alloc (by first | (simp; done) | (simp; omega)) (Obj.cells #[Value.int .i64 sc, Value.slice M ms.length e0] 31)).trans (b2.mono (show w1.heap.size ≤ (((w1.alloc (Obj.cells #[Value.int .i64 N, Value.slice B xs.length d] 26)).alloc (Obj.cells #[Value.int .i64 z, Value.slice C zs.length f] 29)).alloc (Obj.cells #[Value.int .i64 sc, Value.slice M ms.length e0] 31)).heap.size by first | exact Nat.le_refl _ | (simp; done) | (simp; omega)))
    have B2 := Lib.hid (B1.out.trans (d2.mono B1.out.size))
    have RB_2 := Lib.hid (RB_1.out.below d2)
    have RT_2 := Lib.hid (RT_1.out.below d2)
    have RM_2 := Lib.hid (RM_1.out.below d2)
    have HC_2 := Lib.hid (HC_1.out.keep d2)
    have Va_2 := Lib.hid ((((Lvar.new w1 #[Value.int .i64 N, Value.slice B xs.length d] 26).alloc (Obj.cells #[Value.int .i64 z, Value.slice C zs.length f] 29)).alloc (Obj.cells #[Value.int .i64 sc, Value.slice M ms.length e0] 31)).below b2)
    have Vb_2 := Lib.hid (((Lvar.new (w1.alloc (Obj.cells #[Value.int .i64 N, Value.slice B xs.length d] 26)) #[Value.int .i64 z, Value.slice C zs.length f] 29).alloc (Obj.cells #[Value.int .i64 sc, Value.slice M ms.length e0] 31)).below b2)
    simp only [World.size_alloc] at Vb_2
    have Ve_2 := Lib.hid ((Lvar.new ((w1.alloc (Obj.cells #[Value.int .i64 N, Value.slice B xs.length d] 26)).alloc (Obj.cells #[Value.int .i64 z, Value.slice C zs.length f] 29)) #[Value.int .i64 sc, Value.slice M ms.length e0] 31).below b2)
    simp only [World.size_alloc] at Ve_2
    clear RB_1 RT_1 RM_1 HC_1 b2 d2
    have c_Va_0 := Va_2.out.cell 0 _ rfl
    have c_Va_1 := Va_2.out.cell 1 _ rfl
    have lt_Va := Va_2.out.lt
    have c_Vb_0 := Vb_2.out.cell 0 _ rfl
    have c_Vb_1 := Vb_2.out.cell 1 _ rfl
    have lt_Vb := Vb_2.out.lt
    have c_Ve_0 := Ve_2.out.cell 0 _ rfl
    have c_Ve_1 := Ve_2.out.cell 1 _ rfl
    have lt_Ve := Ve_2.out.lt
    go_wp2_with fail
    refine (Calls.mono (FarkS.checkFarkas _ _ _ _ N B M C d e0 f xs ms z zs sc _ RB_2.out hxs RM_2.out (by omega) RT_2.out (by omega))) ?_
    rintro e w3 ⟨rfl, b3⟩
    have hs3 : w2.heap.size ≤ w3.heap.size := b3.size
    have d3 : Below w2.heap.size w2 w3 := (Below.refl w2.heap.size w2).trans (b3.mono (show w2.heap.size ≤ w2.heap.size by first | exact Nat.le_refl _ | (simp; done) | (simp; omega)))
    have B3 := Lib.hid (B2.out.trans (d3.mono B2.out.size))
    have RB_3 := Lib.hid (RB_2.out.below d3)
    have RT_3 := Lib.hid (RT_2.out.below d3)
    have RM_3 := Lib.hid (RM_2.out.below d3)
    have HC_3 := Lib.hid (HC_2.out.keep d3)
    have Va_3 := Lib.hid (Va_2.out.below d3)
    have Vb_3 := Lib.hid (Vb_2.out.below d3)
    have Ve_3 := Lib.hid (Ve_2.out.below d3)
    clear RB_2 RT_2 RM_2 HC_2 Va_2 Vb_2 Ve_2 c_Va_0 c_Va_1 lt_Va c_Vb_0 c_Vb_1 lt_Vb c_Ve_0 c_Ve_1 lt_Ve b3 d3
    have c_Va_0 := Va_3.out.cell 0 _ rfl
    have c_Va_1 := Va_3.out.cell 1 _ rfl
    have lt_Va := Va_3.out.lt
    have c_Vb_0 := Vb_3.out.cell 0 _ rfl
    have c_Vb_1 := Vb_3.out.cell 1 _ rfl
    have lt_Vb := Vb_3.out.lt
    have c_Ve_0 := Ve_3.out.cell 0 _ rfl
    have c_Ve_1 := Ve_3.out.cell 1 _ rfl
    have lt_Ve := Ve_3.out.lt
    go_wp2_with fail
    refine (Calls.mono (FarkI.equal _ _ _ _ sc sc M M e0 e0 ms ms _ RM_3.out RM_3.out (by omega) (by omega))) ?_
    rintro e w4 ⟨rfl, b4⟩
    have hs4 : w3.heap.size ≤ w4.heap.size := b4.size
    have d4 : Below w3.heap.size w3 w4 := (Below.refl w3.heap.size w3).trans (b4.mono (show w3.heap.size ≤ w3.heap.size by first | exact Nat.le_refl _ | (simp; done) | (simp; omega)))
    have B4 := Lib.hid (B3.out.trans (d4.mono B3.out.size))
    have RB_4 := Lib.hid (RB_3.out.below d4)
    have RT_4 := Lib.hid (RT_3.out.below d4)
    have RM_4 := Lib.hid (RM_3.out.below d4)
    have HC_4 := Lib.hid (HC_3.out.keep d4)
    have Va_4 := Lib.hid (Va_3.out.below d4)
    have Vb_4 := Lib.hid (Vb_3.out.below d4)
    have Ve_4 := Lib.hid (Ve_3.out.below d4)
    clear RB_3 RT_3 RM_3 HC_3 Va_3 Vb_3 Ve_3 c_Va_0 c_Va_1 lt_Va c_Vb_0 c_Vb_1 lt_Vb c_Ve_0 c_Ve_1 lt_Ve b4 d4
    generalize checkF N xs (z, zs) sc ms = ok at *
    have hs4w := B4.out.size
    obtain ⟨i0, hi0, hz0, hz1, hz2⟩ := info_parts IntK.intInfo
    cases ok with
    | false =>
      go_wp2
      go_loopw [7] (fun i wr => i = .int .i64 0 ∧ Below w4.heap.size w4 wr) (fun i _ => 10 - (intOf i).toNat)
      case atStart => exact ⟨rfl, Below.refl _ _⟩
      case round =>
        obtain ⟨rfl, hb⟩ := hrel
        have BF := Lib.hid (B4.out.trans (hb.mono B4.out.size))
        go_wp2
        go_ret
        exact ⟨rfl, BF.out⟩
    | true =>
      have HS := Lib.hid (HSO.out rfl)
      clear HSO
      go_wp2
      go_loopw [7] (fun i wr => ∃ k : Nat, k ≤ 8 ∧ i = .int .i64 k ∧ Below w4.heap.size w4 wr) (fun i _ => 10 - (intOf i).toNat)
      case atStart => exact ⟨0, by omega, rfl, Below.refl _ _⟩
      case round =>
        obtain ⟨k, hk, rfl, hb⟩ := hrel
        obtain ⟨wo, rfl⟩ : ∃ wo : World, wo = wr := ⟨_, rfl⟩
        have hbs := hb.size
        have HCR := Lib.hid (HC_4.out.keep hb)
        have VAR := Lib.hid (Va_4.out.below hb)
        have VBR := Lib.hid (Vb_4.out.below hb)
        have RBR := Lib.hid (RB_4.out.below hb)
        have RTR := Lib.hid (RT_4.out.below hb)
        have BR := Lib.hid (B4.out.trans (hb.mono B4.out.size))
        have HBR := Lib.hid hb
        clear hb
        by_cases hlt8 : k < 8
        · have hk8 : (k : Int) < 8 := by omega
          have s9 : Below wo.heap.size wo (wo.alloc (.cells #[] 3)) := (Below.refl _ _).alloc (Nat.le_refl _) _
          have O9 := Lib.hid (own_empty wo)
          go_upto_region 12 with fail
          generalize wo.alloc (.cells #[] 3) = w9 at *
          go_loopw [8, 9] (fun v i wx => ValRel wo N v i wx) (fun _ i _ => 20 - (intOf i).toNat)
          case atStart => exact ⟨0, [], by omega, Or.inr rfl, rfl, rfl, O9.out, s9⟩
          case round =>
            obtain ⟨j, vs, hj, hjN, rfl, hlen, hown, hb⟩ := hrel
            have HO := Lib.hid hown
            have HL := Lib.hid hlen
            have hbase := hb.size
            have VR := Lib.hid (VAR.out.below hb)
            have va0 := VR.out.cell 0 (.int .i64 N) rfl
            have HB := Lib.hid hb
            clear hown s9 hb O9
            by_cases hlt : (j : Int) < N
            · have hw0 : IntKind.i64.wrap ((k : Int) + (j : Int)) = (k : Int) + (j : Int) := IntWalk.i64_in _ (by omega)
              have hk0 : (0 : Int) ≤ (j : Int) := by omega
              have hk1 : (j : Int) < N := hlt
              have AT := Draw.at0 A n c (k + j) hn (by omega) wr (HCR.out.keep HB.out)
              rw [Int.natCast_add] at AT
              have AT := Lib.hid AT
              clear hlen
              go_wp2_with fail
              refine (Calls.mono AT.out) ?_
              rintro e w' ⟨x, hx, rfl, rfl⟩
              have hm0 : x.tmod 14 = x % 14 := Int.tmod_eq_emod_of_nonneg hx.1
              have hy : -4 ≤ x % 14 - 4 ∧ x % 14 - 4 ≤ 9 := by omega
              have hw : IntKind.i64.wrap (x % 14 - 4) = x % 14 - 4 := IntWalk.i64_in _ (by omega)
              go_wp2_with (at_builtin; go_loud (refine wpList_append_own _ rfl (.tmp 50) (.tmp 58) 27 rfl wo.heap.size 3 i0 (.int .i64 0) 1 8 Try.underlying27 hi0 hz0 hz1 hz2 rfl (by decide) _ _ _ rfl (HO.out.alloc _) ⟨wr.heap.size, 0, none⟩ 1 1 [.int .i64 (x % 14 - 4)] rfl rfl (cell_one_new _ _ _) (by simp [Value.oneCell']) (by unfold maxLen; have := HL.out; omega) (by have := HL.out; omega) (by simp <;> omega) ?_); intro v4 w4' hown4 hgrow _)
              have hb4 : Below wo.heap.size wo w4' := (HB.out.alloc HB.out.size _).grown hgrow (by simp <;> omega) (fun j hj => (HO.out.lt j hj).1)
              have hown5 : w4'.ownsRow wo.heap.size 3 1 v4 (vs ++ [x % 14 - 4]).length (IntK.iv (vs ++ [x % 14 - 4])) := by simpa [IntK.iv] using hown4
              have hl5 : (vs ++ [x % 14 - 4]).length = j + 1 := by have := HL.out; simp; omega
              clear hown4 hgrow hm0 hw hy
              generalize vs ++ [x % 14 - 4] = vs2 at *
              have HN5 := Lib.hid hl5
              clear hl5
              go_wp2
              go_roundw
              case rel => exact ⟨j + 1, vs2, by omega, Or.inl (by omega), by go_num, HN5.out, hown5, hb4⟩
              case measure => simp [intOf]; omega
            · have hk' : vs.length ≤ 1000000000 := by omega
              obtain ⟨A5, c5, e5, r5, f5, _, _⟩ := of_own HO.out
              subst e5
              have hlz : decide ((j : Int) < N) = false := decide_eq_false hlt
              have E1 := Lib.hid (LinS.eval _ _ _ _ z C A5 f c5 zs vs wr (RTR.out.below HB.out) r5 (by omega) hk')
              have HV := Lib.hid (HS.out vs)
              have LbR := Lib.hid (VBR.out.below HB.out)
              have u0 := LbR.out.cell 0 (.int .i64 z) rfl
              have u1 := LbR.out.cell 1 (.slice C zs.length f) rfl
              have SS := Lib.hid (fun W (h : Below wr.heap.size wr W) => modelSat _ _ N B A5 d c5 xs vs W ((RBR.out.below HB.out).below h) hxs (r5.below h) hk')
              generalize (evalL z zs vs).getD 0 = p at *
              generalize (evalL z zs vs).isSome = p2 at *
              clear f5 hlen
              go_wp2_with fail
              refine (Calls.mono E1.out) ?_
              rintro e w10 ⟨rfl, b10⟩
              have VA10 := Lib.hid (VR.out.below b10)
              have H10 := Lib.hid (HBR.out.trans ((HB.out.trans (b10.mono HB.out.size)).mono HBR.out.size))
              have a0 := VA10.out.cell 0 (.int .i64 N) rfl
              have a1 := VA10.out.cell 1 (.slice B xs.length d) rfl
              have S1 := Lib.hid (SS.out w10 b10)
              generalize SysS.satB N xs vs = sa at *
              clear b10 u0 u1 va0 r5 LbR
              cases sa with
              | false =>
                go_wp2_with fail
                refine (Calls.mono S1.out) ?_
                rintro e w11 ⟨rfl, b11⟩
                have H11 := Lib.hid (H10.out.trans (b11.mono H10.out.size))
                clear b11
                go_wp2
                go_roundw
                case rel => exact ⟨k + 1, by omega, by go_num, H11.out⟩
                case measure => simp [intOf]; omega
              | true =>
                have hp := HV.out rfl
                have hpd : decide (p < 0) = false := decide_eq_false (by omega)
                go_wp2_with fail
                refine (Calls.mono S1.out) ?_
                rintro e w11 ⟨rfl, b11⟩
                have H11 := Lib.hid (H10.out.trans (b11.mono H10.out.size))
                clear b11 hp
                go_wp2
                go_roundw
                case rel => exact ⟨k + 1, by omega, by go_num, H11.out⟩
                case measure => simp [intOf]; omega
        · have hk8 : decide ((k : Int) < 8) = false := by simp; omega
          go_wp2
          go_ret
          exact ⟨rfl, BR.out⟩

  · go_enter Try.func3, Try.ntmps3
    go_wp2_with fail
    refine (Draw.great A n c hn _).mono ?_
    rintro e w' ⟨rfl, rfl⟩
    go_wp2
    go_ret
    exact ⟨rfl, Below.refl _ _⟩

set_option maxRecDepth 100000 in
theorem lifted (os : Os) (started : os.Started) (H : Type) (enc : TypeId × Value → H) :
    ReturnsInHanded {} Try.checked os 3 .any (Rows.fnFarkasSpec.pre6 enc Try.prog Try.f3 Rows.fnFarkasRow.domain false) (Rows.fnFarkasSpec.post enc Try.prog Try.f3 false true false false) := by
  refine returnsInHanded_of_change (C := Try.checked) Frame.own started (by kernel_rfl) Try.func3
    (ChangeSpec.witness6 (enc := enc) (C := Try.checked) false ⟨#[], #[.slice none 0 0], []⟩ 8 (by kernel_rfl) (by kernel_rfl) (by kernel_rfl) (by kernel_rfl)) ?_
  intro W base args ds gs before hval0 hW _ _
  have hW' := hW
  have hval : ∀ (j : Nat) t v, Try.f3.params[j]? = some t → args[j]? = some v → Value.okWide Try.prog W .any base t v := hval0
  obtain ⟨p, q, hA0, hV, rfl, hfz, hnd⟩ := hW
  have hA : DataW.TrodAll enc Try.prog W 0 (fun _ => true) true Try.f3.params.toList args.toList ds p := hA0
  rw [Try.params3] at hA hval
  obtain ⟨v0, d0, rfl, rfl, h0⟩ := trodAll_one hA
  have hlt := fun x hx => hW'.lt x hx
  obtain ⟨rfl, rfl⟩ := trodVars_none hV
  obtain ⟨ab, nb, cb, rfl⟩ := okWide_slice Try.underlying22 (hval 0 22 v0 rfl rfl)
  obtain ⟨hb, hlb⟩ := Frame.open_code (W := W) (by kernel_rfl) Try.underlying22 Try.underlying5 h0 (fun x hx => hlt x (by simp [hx]))
  refine (walk ab nb cb W hb).mono fun e W' ⟨he, hb⟩ => ?_
  subst he
  exact ⟨_, rfl, Frame.law_post (tb := 4) Frame.laidOut (by kernel_rfl) (by kernel_rfl) (by kernel_rfl) Try.underlying4 hW' rfl hb⟩

theorem proved : Rows.FnFarkasSaid :=
  OpenClaim.holds_of_wide 3 Try.f3 rfl rfl rfl rfl rfl rfl rfl ⟨rfl, rfl, rfl, rfl, rfl⟩ rfl rfl rfl rfl rfl (by kernel_rfl) Try.func3 (by kernel_rfl)
    (of_decide_eq_true (by kernel_rfl)) (by unfold Func.isWrapper; first | (rw [if_pos (by decide +kernel)]; kernel_rfl) | (rw [if_neg (by decide +kernel)]; exact ⟨rfl, rfl⟩))
    (fun os started H enc _ => lifted os started H enc)
end LawFarkas
end Go.Proofs.Ytnbgmhlhbcoicaa
