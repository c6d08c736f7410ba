import Derived.Test.YtompaciebpdmfaaRows
import Derived.Test.YtompaciebpdmfaaFrame
import Derived.Test.YtompaciebpdmfaaFrameSys
import Derived.Test.YtompaciebpdmfaaSysOwn
import Derived.Deep.RegionHeld3
import Derived.Test.YtompaciebpdmfaaSysImpl2
import Derived.SliceStrings
/- At every system and every slice of integers, impl.Satisfies answers as its model and writes nothing into its arguments: the law FnExactSatisfies returns true. There is no condition. -/
namespace Go.Proofs.Ytompaciebpdmfaa
open Go.ChangeShapes Go.WideShapes Go.ChangeAt Go.RowKit
open Go.ChangeMaps (open_string shut_string)
namespace LawSatisfies
theorem isLin : Frame.IsLin Try.prog 49 3 27 :=
  ⟨⟨_, _, Try.underlying49, rfl, rfl, rfl, rfl⟩, Try.underlying3, Try.underlying27, by kernel_rfl, by kernel_rfl, by kernel_rfl⟩

theorem modelSat (lo hi : Nat) (n : Int) (A B : Option Addr) (c d : Nat) (xs : List (Int × List Int)) (us : List Int) (w : World) (hA : SysK.Arg w A xs.length c xs) (hl : Mem.linsSize xs ≤ 1000000000) (hB : RowK.Row lo hi w B (IntK.iv us)) (hl2 : us.length ≤ 1000000000) :
    Calls Try.prog 19 #[.agg #[.int .i64 n, .slice A xs.length c], .slice B us.length d] w fun e w' => e = .returned (.bool (SysS.satB n xs us)) ∧ Below w.heap.size w w' := by
  obtain ⟨q, fp, h⟩ := hA
  exact SysS.satisfies q fp lo hi n A B c d xs us w h hl hB hl2

open RowK
set_option maxHeartbeats 4000000 in
set_option maxRecDepth 100000 in
theorem walk (ns : Int) (As : Option Addr) (cs : Nat) (s : List (Int × List Int)) (Av : Option Addr) (cv : Nat) (v : List Int) (w0 : World) (hs : SysK.Arg w0 As s.length cs s) (hlens : s.length ≤ 9223372036854775807) (hwfs : ∀ x ∈ s, Frame.WfLin x) (hv : Row 0 w0.heap.size w0 Av (IntK.iv v)) (hlenv : v.length ≤ 9223372036854775807) :
    Calls Try.prog 5 #[.agg #[.int .i64 ns, .slice As s.length cs], .slice Av v.length cv] w0 fun e w' => e = .returned (.bool true) ∧ Below w0.heap.size w0 w' := by
  by_cases htv : v.length ≤ 1048576
  · have hnv : v.length ≤ 1000000000 := by omega
    have SZ := fun W (h : SysK.Arg W As s.length cs s) => SysK.size ns As cs 1048576 s W h (by omega) hlens (fun x hx => (hwfs x hx).2.1)
    unfold IntK.leftOf at SZ
    by_cases hts : Mem.linsSize s ≤ 1048576
    · simp only [if_pos hts] at SZ
      have HS := Lib.hid SZ
      have hns : Mem.linsSize s ≤ 1000000000 := by omega
      clear SZ hlens hwfs
      have B0 := Lib.hid (Below.refl w0.heap.size w0)
      go_enter Try.func5, Try.ntmps5
      go_wp2_with fail
      refine (Calls.mono (HS.out _ (hs.below (B0.out.trans (((Below.refl w0.heap.size w0).alloc (by first | (simp; done) | (simp; omega)) (Obj.cells #[Value.int .i64 ns, Value.slice As s.length cs] 42)).mono B0.out.size))))) ?_
      rintro e w1 ⟨rfl, b1⟩
      have hs1 : (w0.alloc (Obj.cells #[Value.int .i64 ns, Value.slice As s.length cs] 42)).heap.size ≤ w1.heap.size := b1.size
      simp only [World.size_alloc] at hs1
      have d1 : Below w0.heap.size w0 w1 := ((Below.refl w0.heap.size w0).alloc (by first | (simp; done) | (simp; omega)) (Obj.cells #[Value.int .i64 ns, Value.slice As s.length cs] 42)).trans (b1.mono (show w0.heap.size ≤ (w0.alloc (Obj.cells #[Value.int .i64 ns, Value.slice As s.length cs] 42)).heap.size by first | exact Nat.le_refl _ | (simp; done) | (simp; omega)))
      have B1 := Lib.hid (B0.out.trans (d1.mono B0.out.size))
      have Va_1 := Lib.hid ((Lvar.new w0 #[Value.int .i64 ns, Value.slice As s.length cs] 42).below b1)
      clear b1 d1
      have c_Va_0 := Va_1.out.cell 0 _ rfl
      have c_Va_1 := Va_1.out.cell 1 _ rfl
      have lt_Va := Va_1.out.lt
      go_wp2_with fail
      refine (Calls.mono (SysK.copy ns As cs s _ (hs.below B1.out) hns)) ?_
      rintro e w2 ⟨X0, rfl, ot, b2⟩
      have Ot := Lib.hid (show SysK.Own (w1.heap.size) w2.heap.size w2 X0 s.length s.length s from ot)
      have hs2 : w1.heap.size ≤ w2.heap.size := b2.size
      have d2 : Below w1.heap.size w1 w2 := (Below.refl w1.heap.size w1).trans (b2.mono (show w1.heap.size ≤ w1.heap.size by first | exact Nat.le_refl _ | (simp; done) | (simp; omega)))
      have B2 := Lib.hid (B1.out.trans (d2.mono B1.out.size))
      have Va_2 := Lib.hid (Va_1.out.below d2)
      clear Va_1 c_Va_0 c_Va_1 lt_Va b2 d2
      clear ot
      have c_Va_0 := Va_2.out.cell 0 _ rfl
      have c_Va_1 := Va_2.out.cell 1 _ rfl
      have lt_Va := Va_2.out.lt
      go_wp2_with fail
      refine (Calls.mono (IntK.copy 0 w0.heap.size Av cv v _ (hv.below B2.out) hnv)) ?_
      rintro e w3 ⟨Y0, rfl, ry0, fy0, b3⟩
      have hs3 : w2.heap.size ≤ w3.heap.size := b3.size
      have d3 : Below w2.heap.size w2 w3 := (Below.refl w2.heap.size w2).trans (b3.mono (show w2.heap.size ≤ w2.heap.size by first | exact Nat.le_refl _ | (simp; done) | (simp; omega)))
      have B3 := Lib.hid (B2.out.trans (d3.mono B2.out.size))
      have Va_3 := Lib.hid (Va_2.out.below d3)
      have Ot_3 := Lib.hid (Ot.out.below d3)
      clear Va_2 Ot c_Va_0 c_Va_1 lt_Va b3 d3
      have c_Va_0 := Va_3.out.cell 0 _ rfl
      have c_Va_1 := Va_3.out.cell 1 _ rfl
      have lt_Va := Va_3.out.lt
      go_wp2_with fail
      refine (Calls.mono (modelSat _ _ ns X0 Y0 s.length v.length s v _ Ot_3.out.arg hns ry0 hnv)) ?_
      rintro e w4 ⟨rfl, b4⟩
      clear Ot_3
      have hs4 : w3.heap.size ≤ w4.heap.size := b4.size
      have d4 : Below w3.heap.size w3 w4 := (Below.refl w3.heap.size w3).trans (b4.mono (show w3.heap.size ≤ w3.heap.size by first | exact Nat.le_refl _ | (simp; done) | (simp; omega)))
      have B4 := Lib.hid (B3.out.trans (d4.mono B3.out.size))
      have Va_4 := Lib.hid (Va_3.out.below d4)
      clear Va_3 c_Va_0 c_Va_1 lt_Va b4 d4
      have c_Va_0 := Va_4.out.cell 0 _ rfl
      have c_Va_1 := Va_4.out.cell 1 _ rfl
      have lt_Va := Va_4.out.lt
      go_wp2_with fail
      refine (Calls.mono (SysK.copy ns As cs s _ (hs.below B4.out) hns)) ?_
      rintro e w5 ⟨X1, rfl, ox, b5⟩
      have Ox := Lib.hid (show SysK.Own (w4.heap.size) w5.heap.size w5 X1 s.length s.length s from ox)
      have hs5 : w4.heap.size ≤ w5.heap.size := b5.size
      have d5 : Below w4.heap.size w4 w5 := (Below.refl w4.heap.size w4).trans (b5.mono (show w4.heap.size ≤ w4.heap.size by first | exact Nat.le_refl _ | (simp; done) | (simp; omega)))
      have B5 := Lib.hid (B4.out.trans (d5.mono B4.out.size))
      have Va_5 := Lib.hid (Va_4.out.below d5)
      clear Va_4 c_Va_0 c_Va_1 lt_Va b5 d5
      clear ox
      have c_Va_0 := Va_5.out.cell 0 _ rfl
      have c_Va_1 := Va_5.out.cell 1 _ rfl
      have lt_Va := Va_5.out.lt
      go_wp2_with fail
      refine (Calls.mono (IntK.copy 0 w0.heap.size Av cv v _ (hv.below (B5.out.trans (((Below.refl w5.heap.size w5).alloc (by first | (simp; done) | (simp; omega)) (Obj.cells #[Value.int .i64 ns, Value.slice X1 s.length s.length] 26)).mono B5.out.size))) hnv)) ?_
      rintro e w6 ⟨Y1, rfl, ry1, fy1, b6⟩
      have hs6 : (w5.alloc (Obj.cells #[Value.int .i64 ns, Value.slice X1 s.length s.length] 26)).heap.size ≤ w6.heap.size := b6.size
      simp only [World.size_alloc] at hs6
      have d6 : Below w5.heap.size w5 w6 := ((Below.refl w5.heap.size w5).alloc (by first | (simp; done) | (simp; omega)) (Obj.cells #[Value.int .i64 ns, Value.slice X1 s.length s.length] 26)).trans (b6.mono (show w5.heap.size ≤ (w5.alloc (Obj.cells #[Value.int .i64 ns, Value.slice X1 s.length s.length] 26)).heap.size by first | exact Nat.le_refl _ | (simp; done) | (simp; omega)))
      have B6 := Lib.hid (B5.out.trans (d6.mono B5.out.size))
      have Va_6 := Lib.hid (Va_5.out.below d6)
      have Ox_6 := Lib.hid (Ox.out.below d6)
      have Vx_6 := Lib.hid ((Lvar.new w5 #[Value.int .i64 ns, Value.slice X1 s.length s.length] 26).below b6)
      clear Va_5 Ox c_Va_0 c_Va_1 lt_Va b6 d6
      have Oy := Lib.hid ry1
      have c_Va_0 := Va_6.out.cell 0 _ rfl
      have c_Va_1 := Va_6.out.cell 1 _ rfl
      have lt_Va := Va_6.out.lt
      have c_Vx_0 := Vx_6.out.cell 0 _ rfl
      have c_Vx_1 := Vx_6.out.cell 1 _ rfl
      have lt_Vx := Vx_6.out.lt
      go_wp2_with fail
      refine (Calls.mono (SysI.satisfies _ _ ns X1 Y1 s.length v.length s v _ Ox_6.out.arg hns Oy.out hnv)) ?_
      rintro e w7 ⟨rfl, b7⟩
      have hs7 : w6.heap.size ≤ w7.heap.size := b7.size
      have d7 : Below w6.heap.size w6 w7 := (Below.refl w6.heap.size w6).trans (b7.mono (show w6.heap.size ≤ w6.heap.size by first | exact Nat.le_refl _ | (simp; done) | (simp; omega)))
      have B7 := Lib.hid (B6.out.trans (d7.mono B6.out.size))
      have Va_7 := Lib.hid (Va_6.out.below d7)
      have Ox_7 := Lib.hid (Ox_6.out.below d7)
      have Vx_7 := Lib.hid (Vx_6.out.below d7)
      have Oy_7 := Lib.hid (Oy.out.below d7)
      clear Va_6 Ox_6 Vx_6 Oy c_Va_0 c_Va_1 lt_Va c_Vx_0 c_Vx_1 lt_Vx b7 d7
      have c_Va_0 := Va_7.out.cell 0 _ rfl
      have c_Va_1 := Va_7.out.cell 1 _ rfl
      have lt_Va := Va_7.out.lt
      have c_Vx_0 := Vx_7.out.cell 0 _ rfl
      have c_Vx_1 := Vx_7.out.cell 1 _ rfl
      have lt_Vx := Vx_7.out.lt
      go_wp2_with fail
      go_region_held3 (fun w' => w'.cell? ⟨w5.heap.size, 0, none⟩ = some (Value.int .i64 ns) ∧ w'.cell? ⟨w5.heap.size, 1, none⟩ = some (Value.slice X1 s.length s.length) ∧ w'.cell? ⟨w0.heap.size, 0, none⟩ = some (Value.int .i64 ns) ∧ w'.cell? ⟨w0.heap.size, 1, none⟩ = some (Value.slice As s.length cs))
        (first | exact ⟨(((Vx_7.out.below (Below.refl _ _).drew).below b8).below b9).cell 0 _ rfl, (((Vx_7.out.below (Below.refl _ _).drew).below b8).below b9).cell 1 _ rfl, (((Va_7.out.below (Below.refl _ _).drew).below b8).below b9).cell 0 _ rfl, (((Va_7.out.below (Below.refl _ _).drew).below b8).below b9).cell 1 _ rfl⟩ | exact ⟨((Vx_7.out.below (Below.refl _ _).drew).below b8).cell 0 _ rfl, ((Vx_7.out.below (Below.refl _ _).drew).below b8).cell 1 _ rfl, ((Va_7.out.below (Below.refl _ _).drew).below b8).cell 0 _ rfl, ((Va_7.out.below (Below.refl _ _).drew).below b8).cell 1 _ rfl⟩ | go_keep)
        (first
          | (go_at_call 21; refine (Calls.mono (SysK.copy ns As cs s _ (hs.below B7.out.drew) hns)) ?_; rintro e w8 ⟨C7, rfl, oc7, b8⟩)
          | (go_at_call 22; refine (Calls.mono (SysK.eq_same ns X1 C7 s.length s.length s _ ((Ox_7.out.below (Below.refl _ _).drew).below b8).arg oc7.arg hns)) ?_; rintro e w9 ⟨rfl, b9⟩))
      have h8 : w7.heap.size ≤ w8.heap.size := b8.size
      have h9 : w8.heap.size ≤ w9.heap.size := b9.size
      have d9 : Below w7.heap.size w7 w9 := (((Below.refl w7.heap.size w7).drew.trans (b8.mono (show w7.heap.size ≤ w7.heap.size by omega))).trans (b9.mono (show w7.heap.size ≤ w8.heap.size by omega)))
      have hs9 := d9.size
      have B9 := Lib.hid (B7.out.trans (d9.mono B7.out.size))
      have Va_9 := Lib.hid (Va_7.out.below d9)
      have Ox_9 := Lib.hid (Ox_7.out.below d9)
      have Vx_9 := Lib.hid (Vx_7.out.below d9)
      have Oy_9 := Lib.hid (Oy_7.out.below d9)
      clear Va_7 Ox_7 Vx_7 Oy_7 c_Va_0 c_Va_1 lt_Va c_Vx_0 c_Vx_1 lt_Vx b8 h8 b9 h9 d9
      clear oc7
      have c_Va_0 := Va_9.out.cell 0 _ rfl
      have c_Va_1 := Va_9.out.cell 1 _ rfl
      have lt_Va := Va_9.out.lt
      have c_Vx_0 := Vx_9.out.cell 0 _ rfl
      have c_Vx_1 := Vx_9.out.cell 1 _ rfl
      have lt_Vx := Vx_9.out.lt
      go_wp2_with fail
      refine (Calls.mono (IntK.copy 0 w0.heap.size Av cv v _ (hv.below B9.out) hnv)) ?_
      rintro e w10 ⟨Y2, rfl, ry2, fy2, b10⟩
      have hs10 : w9.heap.size ≤ w10.heap.size := b10.size
      have d10 : Below w9.heap.size w9 w10 := (Below.refl w9.heap.size w9).trans (b10.mono (show w9.heap.size ≤ w9.heap.size by first | exact Nat.le_refl _ | (simp; done) | (simp; omega)))
      have B10 := Lib.hid (B9.out.trans (d10.mono B9.out.size))
      have Va_10 := Lib.hid (Va_9.out.below d10)
      have Ox_10 := Lib.hid (Ox_9.out.below d10)
      have Vx_10 := Lib.hid (Vx_9.out.below d10)
      have Oy_10 := Lib.hid (Oy_9.out.below d10)
      clear Va_9 Ox_9 Vx_9 Oy_9 c_Va_0 c_Va_1 lt_Va c_Vx_0 c_Vx_1 lt_Vx b10 d10
      have c_Va_0 := Va_10.out.cell 0 _ rfl
      have c_Va_1 := Va_10.out.cell 1 _ rfl
      have lt_Va := Va_10.out.lt
      have c_Vx_0 := Vx_10.out.cell 0 _ rfl
      have c_Vx_1 := Vx_10.out.cell 1 _ rfl
      have lt_Vx := Vx_10.out.lt
      go_wp2_with fail
      refine (Calls.mono (IntK.eq_same _ _ _ _ Y1 Y2 v.length v.length v _ Oy_10.out ry2 (by omega))) ?_
      rintro e w11 ⟨rfl, b11⟩
      have hs11 : w10.heap.size ≤ w11.heap.size := b11.size
      have d11 : Below w10.heap.size w10 w11 := (Below.refl w10.heap.size w10).trans (b11.mono (show w10.heap.size ≤ w10.heap.size by first | exact Nat.le_refl _ | (simp; done) | (simp; omega)))
      have B11 := Lib.hid (B10.out.trans (d11.mono B10.out.size))
      have Va_11 := Lib.hid (Va_10.out.below d11)
      have Ox_11 := Lib.hid (Ox_10.out.below d11)
      have Vx_11 := Lib.hid (Vx_10.out.below d11)
      have Oy_11 := Lib.hid (Oy_10.out.below d11)
      clear Va_10 Ox_10 Vx_10 Oy_10 c_Va_0 c_Va_1 lt_Va c_Vx_0 c_Vx_1 lt_Vx b11 d11
      have c_Va_0 := Va_11.out.cell 0 _ rfl
      have c_Va_1 := Va_11.out.cell 1 _ rfl
      have lt_Va := Va_11.out.lt
      have c_Vx_0 := Vx_11.out.cell 0 _ rfl
      have c_Vx_1 := Vx_11.out.cell 1 _ rfl
      have lt_Vx := Vx_11.out.lt
      go_wp2
      go_ret
      exact ⟨rfl, B11.out⟩
    · simp only [if_neg hts] at SZ
      have HS := Lib.hid SZ
      clear SZ hlens hwfs
      have s0 : Below w0.heap.size w0 (w0.alloc (Obj.cells #[Value.int .i64 ns, Value.slice As s.length cs] 42)) := ((Below.refl _ _).alloc (by first | (simp; done) | (simp; omega)) _)
      have S0 := Lib.hid s0
      clear s0
      go_enter Try.func5, Try.ntmps5
      go_wp2_with fail
      refine (HS.out _ (hs.below S0.out)).mono ?_
      rintro e w1 ⟨rfl, b1⟩
      go_wp2
      go_ret
      exact ⟨rfl, S0.out.trans (b1.mono S0.out.size)⟩

  · go_enter Try.func5, Try.ntmps5
    go_wp2
    go_ret
    exact ⟨rfl, (Below.refl _ _).alloc (Nat.le_refl _) _⟩

set_option maxRecDepth 100000 in
theorem lifted (os : Os) (started : os.Started) (H : Type) (enc : TypeId × Value → H) :
    ReturnsInHanded {} Try.checked os 5 .any (Rows.fnExactSatisfiesSpec.pre6 enc Try.prog Try.f5 Rows.fnExactSatisfiesRow.domain false) (Rows.fnExactSatisfiesSpec.post enc Try.prog Try.f5 false true false false) := by
  refine returnsInHanded_of_change (C := Try.checked) Frame.own started (by kernel_rfl) Try.func5
    (ChangeSpec.witness6 (enc := enc) (C := Try.checked) false ⟨#[], #[.agg #[.int .i64 0, .slice none 0 0], .slice none 0 0], []⟩ 8 (by kernel_rfl) (by kernel_rfl) (by kernel_rfl) (by kernel_rfl)) ?_
  intro W base args ds gs before hval0 hW _ _
  have hW' := hW
  have hval : ∀ (j : Nat) t v, Try.f5.params[j]? = some t → args[j]? = some v → Value.okWide Try.prog W .any base t v := hval0
  obtain ⟨p, q, hA0, hV, rfl, hfz, hnd⟩ := hW
  have hA : DataW.TrodAll enc Try.prog W 0 (fun _ => true) true Try.f5.params.toList args.toList ds p := hA0
  rw [Try.params5] at hA hval
  obtain ⟨v0, v1, d0, d1, p0, p1, rfl, rfl, rfl, h0, h1⟩ := trodAll_two hA
  have hlt := fun x hx => hW'.lt x hx
  obtain ⟨rfl, rfl⟩ := trodVars_none hV
  obtain ⟨ny, ay, cy, fpy, y, rfl, wy, hry, hly, hsy⟩ := Frame.open_sys (W := W) isLin Try.underlying42 (by kernel_rfl) (by kernel_rfl) rfl rfl Try.underlying40 (hval 0 42 v0 rfl rfl) h0 (fun x hx => hlt x (by simp [hx]))
  obtain ⟨av, cv, v, rfl, hrv, hlv, hsv, hcv⟩ := Frame.open_ints_row (W := W) (by kernel_rfl) Try.underlying27 Try.underlying3 (hval 1 27 v1 rfl rfl) h1 (fun x hx => hlt x (by simp [hx]))
  refine (walk ny ay cy y av cv v W ⟨_, _, hry⟩ hly hsy hrv hlv).mono fun e W' ⟨he, hb⟩ => ?_
  subst he
  exact ⟨_, rfl, Frame.law_post (tb := 4) Frame.laidOut (by kernel_rfl) (by kernel_rfl) (by kernel_rfl) Try.underlying4 hW' rfl hb⟩

theorem proved : Rows.FnExactSatisfiesSaid :=
  OpenClaim.holds_of_wide 5 Try.f5 rfl rfl rfl rfl rfl rfl rfl ⟨rfl, rfl, rfl, rfl, rfl⟩ rfl rfl rfl rfl rfl (by kernel_rfl) Try.func5 (by kernel_rfl)
    (of_decide_eq_true (by kernel_rfl)) (by unfold Func.isWrapper; first | (rw [if_pos (by decide +kernel)]; kernel_rfl) | (rw [if_neg (by decide +kernel)]; exact ⟨rfl, rfl⟩))
    (fun os started H enc _ => lifted os started H enc)
end LawSatisfies
end Go.Proofs.Ytompaciebpdmfaa
