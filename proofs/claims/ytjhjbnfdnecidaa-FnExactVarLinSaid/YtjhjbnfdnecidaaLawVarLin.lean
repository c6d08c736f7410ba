/- At every two integers, impl.VarLin answers as its model, in new memory: the law FnExactVarLin returns true. There is no condition. -/
import Derived.Test.YtjhjbnfdnecidaaRows
import Derived.Test.YtjhjbnfdnecidaaFrame
import Derived.Test.YtjhjbnfdnecidaaFrameLin
import Derived.Test.YtjhjbnfdnecidaaLinK
import Derived.Test.YtjhjbnfdnecidaaLinImpl
import Derived.Test.YtjhjbnfdnecidaaLinImpl2
import Derived.Test.YtjhjbnfdnecidaaLinImpl3
import Derived.Test.YtjhjbnfdnecidaaLinImpl4
import Derived.Test.YtjhjbnfdnecidaaLinSpec
import Derived.Test.YtjhjbnfdnecidaaLinSpec2
import Derived.Test.YtjhjbnfdnecidaaLinSpec3
import Derived.SliceStrings
namespace Go.Proofs.Ytjhjbnfdnecidaa
open Go.ChangeShapes Go.WideShapes Go.ChangeAt Go.RowKit
open Go.ChangeMaps (open_string shut_string)
namespace LawVarLin
open RowK LinM
set_option maxHeartbeats 2000000 in
set_option maxRecDepth 100000 in
theorem walk (k n : Int) (w0 : World) (hk : -9223372036854775808 ≤ k ∧ k ≤ 9223372036854775807) :
    Calls Try.prog 8 #[.int .i64 k, .int .i64 n] w0 fun e w' => e = .returned (.bool true) ∧ Below w0.heap.size w0 w' := by
  have SP := Lib.hid (fun W => LinS.var k n W)
  have IM := Lib.hid (fun W => LinI.var k n hk.1 hk.2 W)
  have hT : (LinM.varL k n).2.length ≤ 8 := LinM.varL_small k n
  generalize LinM.varL k n = T at *
  clear hk
  have B0 := Lib.hid (Below.refl w0.heap.size w0)
  go_enter Try.func8, Try.ntmps8
  go_wp2_with fail
  refine (Calls.mono (SP.out _)) ?_
  rintro e w1 ⟨W, cw, rfl, rw, fw, b1⟩
  have Ow := Lib.hid (show IntK.Own (w0.heap.size) w1.heap.size w1 W T.2 from ⟨rw, fw⟩)
  have hs1 : w0.heap.size ≤ w1.heap.size := b1.size
  have d1 : Below w0.heap.size w0 w1 := (Below.refl w0.heap.size w0).trans (b1.mono (show w0.heap.size ≤ w0.heap.size by first | exact Nat.le_refl _ | (simp; done) | (simp; omega)))
  have B1 := Lib.hid (B0.out.trans (d1.mono B0.out.size))
  clear b1 d1
  go_wp2_with fail
  refine (Calls.mono (IM.out _)) ?_
  rintro e w2 ⟨G, cg, rfl, rg, fg, b2⟩
  simp only [World.size_alloc] at rg
  have Og := Lib.hid (show IntK.Own (w1.heap.size + 1) w2.heap.size w2 G T.2 from ⟨rg, fg⟩)
  have hs2 : (w1.alloc (Obj.cells #[Value.int .i64 T.1, Value.slice W T.2.length cw] 26)).heap.size ≤ w2.heap.size := b2.size
  simp only [World.size_alloc] at hs2
  have d2 : Below w1.heap.size w1 w2 := ((Below.refl w1.heap.size w1).alloc (by first | (simp; done) | (simp; omega)) (Obj.cells #[Value.int .i64 T.1, Value.slice W T.2.length cw] 26)).trans (b2.mono (show w1.heap.size ≤ (w1.alloc (Obj.cells #[Value.int .i64 T.1, Value.slice W T.2.length cw] 26)).heap.size by first | exact Nat.le_refl _ | (simp; done) | (simp; omega)))
  have B2 := Lib.hid (B1.out.trans (d2.mono B1.out.size))
  have Ow_2 := Lib.hid (Ow.out.below d2)
  have Vw_2 := Lib.hid ((Lvar.new w1 #[Value.int .i64 T.1, Value.slice W T.2.length cw] 26).below b2)
  clear Ow b2 d2
  have c_Vw_0 := Vw_2.out.cell 0 _ rfl
  have c_Vw_1 := Vw_2.out.cell 1 _ rfl
  have lt_Vw := Vw_2.out.lt
  go_wp2_with fail
  refine (Calls.mono (LinK.eq_same _ _ _ _ T.1 G W cg cw T.2 _ (Og.out.below ((Below.refl w2.heap.size w2).alloc (by first | (simp; done) | (simp; omega)) (Obj.cells #[Value.int .i64 T.1, Value.slice G T.2.length cg] 26))).1 (Ow_2.out.below ((Below.refl w2.heap.size w2).alloc (by first | (simp; done) | (simp; omega)) (Obj.cells #[Value.int .i64 T.1, Value.slice G T.2.length cg] 26))).1 (by omega))) ?_
  rintro e w3 ⟨rfl, b3⟩
  have hs3 : (w2.alloc (Obj.cells #[Value.int .i64 T.1, Value.slice G T.2.length cg] 26)).heap.size ≤ w3.heap.size := b3.size
  simp only [World.size_alloc] at hs3
  have d3 : Below w2.heap.size w2 w3 := ((Below.refl w2.heap.size w2).alloc (by first | (simp; done) | (simp; omega)) (Obj.cells #[Value.int .i64 T.1, Value.slice G T.2.length cg] 26)).trans (b3.mono (show w2.heap.size ≤ (w2.alloc (Obj.cells #[Value.int .i64 T.1, Value.slice G T.2.length cg] 26)).heap.size by first | exact Nat.le_refl _ | (simp; done) | (simp; omega)))
  have B3 := Lib.hid (B2.out.trans (d3.mono B2.out.size))
  have Ow_3 := Lib.hid (Ow_2.out.below d3)
  have Vw_3 := Lib.hid (Vw_2.out.below d3)
  have Og_3 := Lib.hid (Og.out.below d3)
  have Vg_3 := Lib.hid ((Lvar.new w2 #[Value.int .i64 T.1, Value.slice G T.2.length cg] 26).below b3)
  clear Ow_2 Vw_2 Og c_Vw_0 c_Vw_1 lt_Vw b3 d3
  have c_Vw_0 := Vw_3.out.cell 0 _ rfl
  have c_Vw_1 := Vw_3.out.cell 1 _ rfl
  have lt_Vw := Vw_3.out.lt
  have c_Vg_0 := Vg_3.out.cell 0 _ rfl
  have c_Vg_1 := Vg_3.out.cell 1 _ rfl
  have lt_Vg := Vg_3.out.lt
  go_wp2_with fail
  refine (Calls.mono (LinK.mark1 (w1.heap.size + 1) w2.heap.size T.1 G cg T.2 _ Og_3.out (by omega))) ?_
  rintro e w4 ⟨rfl, rm, b4⟩
  have hs4 := b4.size
  have B4 := Lib.hid (below_mod B3.out b4 (by have := B3.out.size; omega) B3.out.size)
  have Ow_4 := Lib.hid (Ow_3.out.keep b4 (by omega))
  have Vw_4 := Lib.hid (Vw_3.out.keep b4 (by omega))
  have Vg_4 := Lib.hid (Vg_3.out.keep b4 (by omega))
  clear Ow_3 Vw_3 Vg_3 c_Vw_0 c_Vw_1 lt_Vw c_Vg_0 c_Vg_1 lt_Vg b4
  have Rg := Lib.hid rm
  clear rm Og_3
  have c_Vw_0 := Vw_4.out.cell 0 _ rfl
  have c_Vw_1 := Vw_4.out.cell 1 _ rfl
  have lt_Vw := Vw_4.out.lt
  have c_Vg_0 := Vg_4.out.cell 0 _ rfl
  have c_Vg_1 := Vg_4.out.cell 1 _ rfl
  have lt_Vg := Vg_4.out.lt
  go_wp2_with fail
  refine (Calls.mono (LinK.held1 _ _ T.1 G cg T.2.length _ Rg.out (by omega))) ?_
  rintro e w5 ⟨rfl, b5⟩
  have hs5 : w4.heap.size ≤ w5.heap.size := b5.size
  have d5 : Below w4.heap.size w4 w5 := (Below.refl w4.heap.size w4).trans (b5.mono (show w4.heap.size ≤ w4.heap.size by first | exact Nat.le_refl _ | (simp; done) | (simp; omega)))
  have B5 := Lib.hid (B4.out.trans (d5.mono B4.out.size))
  have Ow_5 := Lib.hid (Ow_4.out.below d5)
  have Vw_5 := Lib.hid (Vw_4.out.below d5)
  have Vg_5 := Lib.hid (Vg_4.out.below d5)
  have Rg_5 := Lib.hid (Rg.out.below d5)
  clear Ow_4 Vw_4 Vg_4 Rg c_Vw_0 c_Vw_1 lt_Vw c_Vg_0 c_Vg_1 lt_Vg b5 d5
  have c_Vw_0 := Vw_5.out.cell 0 _ rfl
  have c_Vw_1 := Vw_5.out.cell 1 _ rfl
  have lt_Vw := Vw_5.out.lt
  have c_Vg_0 := Vg_5.out.cell 0 _ rfl
  have c_Vg_1 := Vg_5.out.cell 1 _ rfl
  have lt_Vg := Vg_5.out.lt
  go_wp2_with fail
  refine (Calls.mono (IM.out _)) ?_
  rintro e w6 ⟨H, ch, rfl, rh, fh, b6⟩
  have Oh := Lib.hid (show IntK.Own (w5.heap.size) w6.heap.size w6 H T.2 from ⟨rh, fh⟩)
  have hs6 : w5.heap.size ≤ w6.heap.size := b6.size
  have d6 : Below w5.heap.size w5 w6 := (Below.refl w5.heap.size w5).trans (b6.mono (show w5.heap.size ≤ w5.heap.size by first | exact Nat.le_refl _ | (simp; done) | (simp; omega)))
  have B6 := Lib.hid (B5.out.trans (d6.mono B5.out.size))
  have Ow_6 := Lib.hid (Ow_5.out.below d6)
  have Vw_6 := Lib.hid (Vw_5.out.below d6)
  have Vg_6 := Lib.hid (Vg_5.out.below d6)
  have Rg_6 := Lib.hid (Rg_5.out.below d6)
  clear Ow_5 Vw_5 Vg_5 Rg_5 c_Vw_0 c_Vw_1 lt_Vw c_Vg_0 c_Vg_1 lt_Vg b6 d6
  have c_Vw_0 := Vw_6.out.cell 0 _ rfl
  have c_Vw_1 := Vw_6.out.cell 1 _ rfl
  have lt_Vw := Vw_6.out.lt
  have c_Vg_0 := Vg_6.out.cell 0 _ rfl
  have c_Vg_1 := Vg_6.out.cell 1 _ rfl
  have lt_Vg := Vg_6.out.lt
  go_wp2_with fail
  refine (Calls.mono (LinK.eq_same _ _ _ _ T.1 H W ch cw T.2 _ (Oh.out.below ((Below.refl w6.heap.size w6).alloc (by first | (simp; done) | (simp; omega)) (Obj.cells #[Value.int .i64 T.1, Value.slice H T.2.length ch] 26))).1 (Ow_6.out.below ((Below.refl w6.heap.size w6).alloc (by first | (simp; done) | (simp; omega)) (Obj.cells #[Value.int .i64 T.1, Value.slice H T.2.length ch] 26))).1 (by omega))) ?_
  rintro e w7 ⟨rfl, b7⟩
  have hs7 : (w6.alloc (Obj.cells #[Value.int .i64 T.1, Value.slice H T.2.length ch] 26)).heap.size ≤ w7.heap.size := b7.size
  simp only [World.size_alloc] at hs7
  have d7 : Below w6.heap.size w6 w7 := ((Below.refl w6.heap.size w6).alloc (by first | (simp; done) | (simp; omega)) (Obj.cells #[Value.int .i64 T.1, Value.slice H T.2.length ch] 26)).trans (b7.mono (show w6.heap.size ≤ (w6.alloc (Obj.cells #[Value.int .i64 T.1, Value.slice H T.2.length ch] 26)).heap.size by first | exact Nat.le_refl _ | (simp; done) | (simp; omega)))
  have B7 := Lib.hid (B6.out.trans (d7.mono B6.out.size))
  have Ow_7 := Lib.hid (Ow_6.out.below d7)
  have Vw_7 := Lib.hid (Vw_6.out.below d7)
  have Vg_7 := Lib.hid (Vg_6.out.below d7)
  have Rg_7 := Lib.hid (Rg_6.out.below d7)
  have Oh_7 := Lib.hid (Oh.out.below d7)
  have Vh_7 := Lib.hid ((Lvar.new w6 #[Value.int .i64 T.1, Value.slice H T.2.length ch] 26).below b7)
  clear Ow_6 Vw_6 Vg_6 Rg_6 Oh c_Vw_0 c_Vw_1 lt_Vw c_Vg_0 c_Vg_1 lt_Vg b7 d7
  have c_Vw_0 := Vw_7.out.cell 0 _ rfl
  have c_Vw_1 := Vw_7.out.cell 1 _ rfl
  have lt_Vw := Vw_7.out.lt
  have c_Vg_0 := Vg_7.out.cell 0 _ rfl
  have c_Vg_1 := Vg_7.out.cell 1 _ rfl
  have lt_Vg := Vg_7.out.lt
  have c_Vh_0 := Vh_7.out.cell 0 _ rfl
  have c_Vh_1 := Vh_7.out.cell 1 _ rfl
  have lt_Vh := Vh_7.out.lt
  go_wp2_with fail
  refine (Calls.mono (LinK.held1 _ _ T.1 G cg T.2.length _ Rg_7.out (by omega))) ?_
  rintro e w8 ⟨rfl, b8⟩
  have hs8 : w7.heap.size ≤ w8.heap.size := b8.size
  have d8 : Below w7.heap.size w7 w8 := (Below.refl w7.heap.size w7).trans (b8.mono (show w7.heap.size ≤ w7.heap.size by first | exact Nat.le_refl _ | (simp; done) | (simp; omega)))
  have B8 := Lib.hid (B7.out.trans (d8.mono B7.out.size))
  have Ow_8 := Lib.hid (Ow_7.out.below d8)
  have Vw_8 := Lib.hid (Vw_7.out.below d8)
  have Vg_8 := Lib.hid (Vg_7.out.below d8)
  have Rg_8 := Lib.hid (Rg_7.out.below d8)
  have Oh_8 := Lib.hid (Oh_7.out.below d8)
  have Vh_8 := Lib.hid (Vh_7.out.below d8)
  clear Ow_7 Vw_7 Vg_7 Rg_7 Oh_7 Vh_7 c_Vw_0 c_Vw_1 lt_Vw c_Vg_0 c_Vg_1 lt_Vg c_Vh_0 c_Vh_1 lt_Vh b8 d8
  have c_Vw_0 := Vw_8.out.cell 0 _ rfl
  have c_Vw_1 := Vw_8.out.cell 1 _ rfl
  have lt_Vw := Vw_8.out.lt
  have c_Vg_0 := Vg_8.out.cell 0 _ rfl
  have c_Vg_1 := Vg_8.out.cell 1 _ rfl
  have lt_Vg := Vg_8.out.lt
  have c_Vh_0 := Vh_8.out.cell 0 _ rfl
  have c_Vh_1 := Vh_8.out.cell 1 _ rfl
  have lt_Vh := Vh_8.out.lt
  go_wp2
  go_ret
  exact ⟨rfl, B8.out⟩

set_option maxRecDepth 100000 in
theorem lifted (os : Os) (started : os.Started) (H : Type) (enc : TypeId × Value → H) :
    ReturnsInHanded {} Try.checked os 8 .any (Rows.fnExactVarLinSpec.pre6 enc Try.prog Try.f8 Rows.fnExactVarLinRow.domain false) (Rows.fnExactVarLinSpec.post enc Try.prog Try.f8 false true false false) := by
  refine returnsInHanded_of_change (C := Try.checked) Frame.own started (by kernel_rfl) Try.func8
    (ChangeSpec.witness6 (enc := enc) (C := Try.checked) false ⟨#[], #[.int .i64 0, .int .i64 0], []⟩ 8 (by kernel_rfl) (by kernel_rfl) (by kernel_rfl) (by kernel_rfl)) ?_
  intro W base args ds gs before hval0 hW _ _
  have hW' := hW
  have hval : ∀ (j : Nat) t v, Try.f8.params[j]? = some t → args[j]? = some v → Value.okWide Try.prog W .any base t v := hval0
  obtain ⟨p, q, hA0, hV, rfl, hfz, hnd⟩ := hW
  have hA : DataW.TrodAll enc Try.prog W 0 (fun _ => true) true Try.f8.params.toList args.toList ds p := hA0
  rw [Try.params8] at hA hval
  obtain ⟨v0, v1, d0, d1, p0, p1, rfl, rfl, rfl, h0, h1⟩ := trodAll_two hA
  have hlt := fun x hx => hW'.lt x hx
  obtain ⟨rfl, rfl⟩ := trodVars_none hV
  obtain ⟨k, rfl, rfl, rfl, wk⟩ := open_int Try.underlying3 (hval 0 3 v0 rfl rfl) h0
  obtain ⟨n, rfl, rfl, rfl, wn⟩ := open_int Try.underlying3 (hval 1 3 v1 rfl rfl) h1
  refine (walk k n W (bounds_i64 wk)).mono fun e W' ⟨he, hb⟩ => ?_
  subst he
  exact ⟨_, rfl, Frame.law_post (tb := 4) Frame.laidOut (by kernel_rfl) (by kernel_rfl) (by kernel_rfl) Try.underlying4 hW' rfl hb⟩

theorem proved : Rows.FnExactVarLinSaid :=
  OpenClaim.holds_of_wide 8 Try.f8 rfl rfl rfl rfl rfl rfl rfl ⟨rfl, rfl, rfl, rfl, rfl⟩ rfl rfl rfl rfl rfl (by kernel_rfl) Try.func8 (by kernel_rfl)
    (of_decide_eq_true (by kernel_rfl)) (by unfold Func.isWrapper; first | (rw [if_pos (by decide +kernel)]; kernel_rfl) | (rw [if_neg (by decide +kernel)]; exact ⟨rfl, rfl⟩))
    (fun os started H enc _ => lifted os started H enc)
end LawVarLin
end Go.Proofs.Ytjhjbnfdnecidaa
