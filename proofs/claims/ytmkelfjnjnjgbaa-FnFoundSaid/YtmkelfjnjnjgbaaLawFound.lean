import Derived.Test.YtmkelfjnjnjgbaaRows
import Derived.Test.YtmkelfjnjnjgbaaFrame
import Derived.Test.YtmkelfjnjnjgbaaFrameCode
import Derived.Test.YtmkelfjnjnjgbaaFarkSpec2
import Derived.Test.YtmkelfjnjnjgbaaFarkMath2
import Derived.Test.YtmkelfjnjnjgbaaDraw8
import Derived.Test.YtmkelfjnjnjgbaaLawKit4
import Derived.Test.YtmkelfjnjnjgbaaElimEntS
import Derived.Test.YtmkelfjnjnjgbaaElimEntM
import Derived.OwnWalk
import Derived.Deep.RegionHeld3
import Derived.Deep.DeepCutAuto
import Derived.SliceStrings
/- At every code: what is found for the system and the target drawn from it is what the model finds, and it is accepted: the law FnFound returns true. There is no condition. -/
namespace Go.Proofs.Ytmkelfjnjnjgbaa
open Go.ChangeShapes Go.WideShapes Go.ChangeAt Go.RowKit
open Go.ChangeMaps (open_string shut_string)
namespace LawFound
open RowK LinM Mem FarkM
theorem any6_size {N : Int} {xs : List (Int × List Int)} (h : Draw.Any6 N xs) : linsSize xs ≤ 1000 := by
  have h1 := Draw.linsSize_le (m := 9) h.2.2
  have := h.2.1
  omega

set_option maxHeartbeats 4000000 in
set_option maxRecDepth 100000 in
theorem walk (A : Option Addr) (n c : Nat) (w0 : World) (hc : Draw.Code w0 A n) :
    Calls Try.prog 3 #[.slice A n c] w0 fun e w' => e = .returned (.bool true) ∧ Below w0.heap.size w0 w' := by
  by_cases hn : n ≤ 1048576
  · skip
    have B0 := Lib.hid (Below.refl w0.heap.size w0)
    go_enter Try.func3, Try.ntmps3
    go_wp2_with fail
    refine (Draw.small A n c hn _).mono ?_
    rintro e w' ⟨rfl, rfl⟩
    go_wp2_with fail
    refine (Calls.mono (Draw.drawFindFarkas A n c hn _ hc)) ?_
    rintro e w1 ⟨N, B, d, xs, z, zs, C, f, lo, hi, lo', hi', rfl, hP, hz9, hA, hT, _, _, b1⟩
    have hs1 : w0.heap.size ≤ w1.heap.size := b1.size
    have d1 : Below w0.heap.size w0 w1 := (Below.refl w0.heap.size w0).trans (b1.mono (show w0.heap.size ≤ w0.heap.size by first | exact Nat.le_refl _ | (simp; done) | (simp; omega)))
    have B1 := Lib.hid (B0.out.trans (d1.mono B0.out.size))
    clear b1 d1
    have RB_1 := Lib.hid hA.arg
    have RT_1 := Lib.hid hT
    clear hA hT
    have hsz := any6_size hP
    have hxs : linsSize xs ≤ 1000000000 := by omega
    have IM := fun A c Al cl lo hi W (h : SysK.Arg W A xs.length c xs) (h' : Row lo hi W Al (IntK.iv zs)) => ElimI.findFarkas lo hi N A Al c cl xs z zs W h hxs h' (by omega)
    have SP := fun A c Al cl lo hi W (h : SysK.Arg W A xs.length c xs) (h' : Row lo hi W Al (IntK.iv zs)) => ElimS.find lo hi N A Al c cl xs z zs W h hxs h' (by omega)
    have EN := fun A c Al cl lo hi W (h : SysK.Arg W A xs.length c xs) (h' : Row lo hi W Al (IntK.iv zs)) => ElimI.entails lo hi N A Al c cl xs z zs W h hxs h' (by omega)
    have hT := ElimM.find_small N xs (z, zs)
    have HCK := Lib.hid (show (ElimM.findF N xs (z, zs)).isSome = true → checkF N xs (z, zs) ((ElimM.findF N xs (z, zs)).getD (0, [])).1 ((ElimM.findF N xs (z, zs)).getD (0, [])).2 = true from fun h => by
      cases hf : ElimM.findF N xs (z, zs) with
      | none => rw [hf] at h; cases h
      | some r => exact ElimM.find_check hf)
    unfold LinI.GaveO at IM SP
    unfold ElimM.entB at EN
    generalize (ElimM.findF N xs (z, zs)).getD (0, []) = T at *
    generalize (ElimM.findF N xs (z, zs)).isSome = q at *
    have IM := Lib.hid IM
    have SP := Lib.hid SP
    have EN := Lib.hid EN
    have hEQ : eqB T.1 T.1 T.2 T.2 = true := by simp [eqB]
    clear hP
    go_wp2_with fail
    refine (Calls.mono (IM.out B d C f _ _ _ (RB_1.out.below (((Below.refl w1.heap.size w1).alloc (by first | (simp; done) | (simp; omega)) (Obj.cells #[Value.int .i64 N, Value.slice B xs.length d] 26)).alloc (by first | (simp; done) | (simp; omega)) (Obj.cells #[Value.int .i64 z, Value.slice C zs.length f] 29))) (RT_1.out.below (((Below.refl w1.heap.size w1).alloc (by first | (simp; done) | (simp; omega)) (Obj.cells #[Value.int .i64 N, Value.slice B xs.length d] 26)).alloc (by first | (simp; done) | (simp; omega)) (Obj.cells #[Value.int .i64 z, Value.slice C zs.length f] 29))))) ?_
    rintro e w2 ⟨G, cl, rfl, rl, fl, b2⟩
    simp only [World.size_alloc] at rl
    have Ol := Lib.hid (show IntK.Own (w1.heap.size + 1 + 1) w2.heap.size w2 G T.2 from ⟨rl, fl⟩)
    have hs2 : ((w1.alloc (Obj.cells #[Value.int .i64 N, Value.slice B xs.length d] 26)).alloc (Obj.cells #[Value.int .i64 z, Value.slice C zs.length f] 29)).heap.size ≤ w2.heap.size := b2.size
    simp only [World.size_alloc] at hs2
    have d2 : Below w1.heap.size w1 w2 := (((Below.refl w1.heap.size w1).alloc (by first | (simp; done) | (simp; omega)) (Obj.cells #[Value.int .i64 N, Value.slice B xs.length d] 26)).alloc (by first | (simp; done) | (simp; omega)) (Obj.cells #[Value.int .i64 z, Value.slice C zs.length f] 29)).trans (b2.mono (show w1.heap.size ≤ ((w1.alloc (Obj.cells #[Value.int .i64 N, Value.slice B xs.length d] 26)).alloc (Obj.cells #[Value.int .i64 z, Value.slice C zs.length f] 29)).heap.size by first | exact Nat.le_refl _ | (simp; done) | (simp; omega)))
    have B2 := Lib.hid (B1.out.trans (d2.mono B1.out.size))
    have RB_2 := Lib.hid (RB_1.out.below d2)
    have RT_2 := Lib.hid (RT_1.out.below d2)
    have Va_2 := Lib.hid (((Lvar.new w1 #[Value.int .i64 N, Value.slice B xs.length d] 26).alloc (Obj.cells #[Value.int .i64 z, Value.slice C zs.length f] 29)).below b2)
    have Vb_2 := Lib.hid ((Lvar.new (w1.alloc (Obj.cells #[Value.int .i64 N, Value.slice B xs.length d] 26)) #[Value.int .i64 z, Value.slice C zs.length f] 29).below b2)
    simp only [World.size_alloc] at Vb_2
    clear RB_1 RT_1 b2 d2
    have c_Va_0 := Va_2.out.cell 0 _ rfl
    have c_Va_1 := Va_2.out.cell 1 _ rfl
    have lt_Va := Va_2.out.lt
    have c_Vb_0 := Vb_2.out.cell 0 _ rfl
    have c_Vb_1 := Vb_2.out.cell 1 _ rfl
    have lt_Vb := Vb_2.out.lt
    go_wp2_with fail
    refine (Calls.mono (SP.out B d C f _ _ _ (RB_2.out.below ((Below.refl w2.heap.size w2).alloc (by first | (simp; done) | (simp; omega)) (Obj.cells #[Value.int .i64 T.1, Value.slice G T.2.length cl] 33))) (RT_2.out.below ((Below.refl w2.heap.size w2).alloc (by first | (simp; done) | (simp; omega)) (Obj.cells #[Value.int .i64 T.1, Value.slice G T.2.length cl] 33))))) ?_
    rintro e w3 ⟨W, cw, rfl, rw, fw, b3⟩
    simp only [World.size_alloc] at rw
    have Ow := Lib.hid (show IntK.Own (w2.heap.size + 1) w3.heap.size w3 W T.2 from ⟨rw, fw⟩)
    have hs3 : (w2.alloc (Obj.cells #[Value.int .i64 T.1, Value.slice G T.2.length cl] 33)).heap.size ≤ w3.heap.size := b3.size
    simp only [World.size_alloc] at hs3
    have d3 : Below w2.heap.size w2 w3 := ((Below.refl w2.heap.size w2).alloc (by first | (simp; done) | (simp; omega)) (Obj.cells #[Value.int .i64 T.1, Value.slice G T.2.length cl] 33)).trans (b3.mono (show w2.heap.size ≤ (w2.alloc (Obj.cells #[Value.int .i64 T.1, Value.slice G T.2.length cl] 33)).heap.size by first | exact Nat.le_refl _ | (simp; done) | (simp; omega)))
    have B3 := Lib.hid (B2.out.trans (d3.mono B2.out.size))
    have RB_3 := Lib.hid (RB_2.out.below d3)
    have RT_3 := Lib.hid (RT_2.out.below d3)
    have Va_3 := Lib.hid (Va_2.out.below d3)
    have Vb_3 := Lib.hid (Vb_2.out.below d3)
    have Ol_3 := Lib.hid (Ol.out.below d3)
    have Vl_3 := Lib.hid ((Lvar.new w2 #[Value.int .i64 T.1, Value.slice G T.2.length cl] 33).below b3)
    clear RB_2 RT_2 Va_2 Vb_2 Ol c_Va_0 c_Va_1 lt_Va c_Vb_0 c_Vb_1 lt_Vb b3 d3
    have dS4 : Below w3.heap.size w3 (w3.alloc (Obj.cells #[Value.int .i64 T.1, Value.slice W T.2.length cw] 33)) := ((Below.refl w3.heap.size w3).alloc (by first | (simp; done) | (simp; omega)) (Obj.cells #[Value.int .i64 T.1, Value.slice W T.2.length cw] 33))
    have hS4 : w3.heap.size + 1 ≤ (w3.alloc (Obj.cells #[Value.int .i64 T.1, Value.slice W T.2.length cw] 33)).heap.size := by simp
    have HS4 := Lib.hid hS4
    have B4 := Lib.hid (B3.out.trans (dS4.mono B3.out.size))
    have RB_4 := Lib.hid (RB_3.out.below dS4)
    have RT_4 := Lib.hid (RT_3.out.below dS4)
    have Va_4 := Lib.hid (Va_3.out.below dS4)
    have Vb_4 := Lib.hid (Vb_3.out.below dS4)
    have Ol_4 := Lib.hid (Ol_3.out.below dS4)
    have Vl_4 := Lib.hid (Vl_3.out.below dS4)
    have Ow_4 := Lib.hid (Ow.out.below dS4)
    have Vw_4 := Lib.hid (Lvar.new w3 #[Value.int .i64 T.1, Value.slice W T.2.length cw] 33)
    clear RB_3 RT_3 Va_3 Vb_3 Ol_3 Vl_3 Ow dS4 hS4
    go_upto_region 6 with fail
    generalize (w3.alloc (Obj.cells #[Value.int .i64 T.1, Value.slice W T.2.length cw] 33)) = w4 at *
    have hs4 : w3.heap.size + 1 ≤ w4.heap.size := HS4.out
    have hqq : (q != q) = false := by simp
    have hqe : (q == q) = true := by simp
    have c_Va_0 := Va_4.out.cell 0 _ rfl
    have c_Va_1 := Va_4.out.cell 1 _ rfl
    have lt_Va := Va_4.out.lt
    have c_Vb_0 := Vb_4.out.cell 0 _ rfl
    have c_Vb_1 := Vb_4.out.cell 1 _ rfl
    have lt_Vb := Vb_4.out.lt
    have c_Vl_0 := Vl_4.out.cell 0 _ rfl
    have c_Vl_1 := Vl_4.out.cell 1 _ rfl
    have lt_Vl := Vl_4.out.lt
    have c_Vw_0 := Vw_4.out.cell 0 _ rfl
    have c_Vw_1 := Vw_4.out.cell 1 _ rfl
    have lt_Vw := Vw_4.out.lt
    go_wp2_with fail
    refine (Calls.mono (FarkS.equal _ _ _ _ T.1 T.1 G W cl cw T.2 T.2 _ Ol_4.out.1 Ow_4.out.1 (by omega) (by omega))) ?_
    rintro e w5 ⟨rfl, b5⟩
    have hs5 : w4.heap.size ≤ w5.heap.size := b5.size
    have d5 : Below w4.heap.size w4 w5 := (Below.refl w4.heap.size w4).trans (b5.mono (show w4.heap.size ≤ w4.heap.size by first | exact Nat.le_refl _ | (simp; done) | (simp; omega)))
    have B5 := Lib.hid (B4.out.trans (d5.mono B4.out.size))
    have RB_5 := Lib.hid (RB_4.out.below d5)
    have RT_5 := Lib.hid (RT_4.out.below d5)
    have Va_5 := Lib.hid (Va_4.out.below d5)
    have Vb_5 := Lib.hid (Vb_4.out.below d5)
    have Ol_5 := Lib.hid (Ol_4.out.below d5)
    have Vl_5 := Lib.hid (Vl_4.out.below d5)
    have Ow_5 := Lib.hid (Ow_4.out.below d5)
    have Vw_5 := Lib.hid (Vw_4.out.below d5)
    clear RB_4 RT_4 Va_4 Vb_4 Ol_4 Vl_4 Ow_4 Vw_4 c_Va_0 c_Va_1 lt_Va c_Vb_0 c_Vb_1 lt_Vb c_Vl_0 c_Vl_1 lt_Vl c_Vw_0 c_Vw_1 lt_Vw b5 d5
    have c_Va_0 := Va_5.out.cell 0 _ rfl
    have c_Va_1 := Va_5.out.cell 1 _ rfl
    have lt_Va := Va_5.out.lt
    have c_Vb_0 := Vb_5.out.cell 0 _ rfl
    have c_Vb_1 := Vb_5.out.cell 1 _ rfl
    have lt_Vb := Vb_5.out.lt
    have c_Vl_0 := Vl_5.out.cell 0 _ rfl
    have c_Vl_1 := Vl_5.out.cell 1 _ rfl
    have lt_Vl := Vl_5.out.lt
    have c_Vw_0 := Vw_5.out.cell 0 _ rfl
    have c_Vw_1 := Vw_5.out.cell 1 _ rfl
    have lt_Vw := Vw_5.out.lt
    go_wp2_with fail
    refine (Calls.mono (EN.out B d C f _ _ _ RB_5.out RT_5.out)) ?_
    rintro e w6 ⟨rfl, b6⟩
    have hs6 : w5.heap.size ≤ w6.heap.size := b6.size
    have d6 : Below w5.heap.size w5 w6 := (Below.refl w5.heap.size w5).trans (b6.mono (show w5.heap.size ≤ w5.heap.size by first | exact Nat.le_refl _ | (simp; done) | (simp; omega)))
    have B6 := Lib.hid (B5.out.trans (d6.mono B5.out.size))
    have RB_6 := Lib.hid (RB_5.out.below d6)
    have RT_6 := Lib.hid (RT_5.out.below d6)
    have Va_6 := Lib.hid (Va_5.out.below d6)
    have Vb_6 := Lib.hid (Vb_5.out.below d6)
    have Ol_6 := Lib.hid (Ol_5.out.below d6)
    have Vl_6 := Lib.hid (Vl_5.out.below d6)
    have Ow_6 := Lib.hid (Ow_5.out.below d6)
    have Vw_6 := Lib.hid (Vw_5.out.below d6)
    clear RB_5 RT_5 Va_5 Vb_5 Ol_5 Vl_5 Ow_5 Vw_5 c_Va_0 c_Va_1 lt_Va c_Vb_0 c_Vb_1 lt_Vb c_Vl_0 c_Vl_1 lt_Vl c_Vw_0 c_Vw_1 lt_Vw b6 d6
    cases q with
    | false =>
      have c_Va_0 := Va_6.out.cell 0 _ rfl
      have c_Va_1 := Va_6.out.cell 1 _ rfl
      have lt_Va := Va_6.out.lt
      have c_Vb_0 := Vb_6.out.cell 0 _ rfl
      have c_Vb_1 := Vb_6.out.cell 1 _ rfl
      have lt_Vb := Vb_6.out.lt
      have c_Vl_0 := Vl_6.out.cell 0 _ rfl
      have c_Vl_1 := Vl_6.out.cell 1 _ rfl
      have lt_Vl := Vl_6.out.lt
      have c_Vw_0 := Vw_6.out.cell 0 _ rfl
      have c_Vw_1 := Vw_6.out.cell 1 _ rfl
      have lt_Vw := Vw_6.out.lt
      go_wp2
      go_region_law (fail)
      all_goals (go_wp2_with fail)
      all_goals go_ret
      all_goals exact ⟨rfl, by first | exact B6.out | exact B6.out.drew⟩
    | true =>
      have hck := HCK.out rfl
      have c_Va_0 := Va_6.out.cell 0 _ rfl
      have c_Va_1 := Va_6.out.cell 1 _ rfl
      have lt_Va := Va_6.out.lt
      have c_Vb_0 := Vb_6.out.cell 0 _ rfl
      have c_Vb_1 := Vb_6.out.cell 1 _ rfl
      have lt_Vb := Vb_6.out.lt
      have c_Vl_0 := Vl_6.out.cell 0 _ rfl
      have c_Vl_1 := Vl_6.out.cell 1 _ rfl
      have lt_Vl := Vl_6.out.lt
      have c_Vw_0 := Vw_6.out.cell 0 _ rfl
      have c_Vw_1 := Vw_6.out.cell 1 _ rfl
      have lt_Vw := Vw_6.out.lt
      go_wp2_with fail
      refine (Calls.mono (FarkS.checkFarkas _ _ _ _ N B G C d cl f xs T.2 z zs T.1 _ RB_6.out hxs Ol_6.out.1 (by omega) RT_6.out (by omega))) ?_
      rintro e w7 ⟨e1, b7⟩
      rw [hck] at e1
      subst e1
      have hs7 : w6.heap.size ≤ w7.heap.size := b7.size
      have d7 : Below w6.heap.size w6 w7 := (Below.refl w6.heap.size w6).trans (b7.mono (show w6.heap.size ≤ w6.heap.size by first | exact Nat.le_refl _ | (simp; done) | (simp; omega)))
      have B7 := Lib.hid (B6.out.trans (d7.mono B6.out.size))
      have RB_7 := Lib.hid (RB_6.out.below d7)
      have RT_7 := Lib.hid (RT_6.out.below d7)
      have Va_7 := Lib.hid (Va_6.out.below d7)
      have Vb_7 := Lib.hid (Vb_6.out.below d7)
      have Ol_7 := Lib.hid (Ol_6.out.below d7)
      have Vl_7 := Lib.hid (Vl_6.out.below d7)
      have Ow_7 := Lib.hid (Ow_6.out.below d7)
      have Vw_7 := Lib.hid (Vw_6.out.below d7)
      clear RB_6 RT_6 Va_6 Vb_6 Ol_6 Vl_6 Ow_6 Vw_6 c_Va_0 c_Va_1 lt_Va c_Vb_0 c_Vb_1 lt_Vb c_Vl_0 c_Vl_1 lt_Vl c_Vw_0 c_Vw_1 lt_Vw b7 d7
      have c_Va_0 := Va_7.out.cell 0 _ rfl
      have c_Va_1 := Va_7.out.cell 1 _ rfl
      have lt_Va := Va_7.out.lt
      have c_Vb_0 := Vb_7.out.cell 0 _ rfl
      have c_Vb_1 := Vb_7.out.cell 1 _ rfl
      have lt_Vb := Vb_7.out.lt
      have c_Vl_0 := Vl_7.out.cell 0 _ rfl
      have c_Vl_1 := Vl_7.out.cell 1 _ rfl
      have lt_Vl := Vl_7.out.lt
      have c_Vw_0 := Vw_7.out.cell 0 _ rfl
      have c_Vw_1 := Vw_7.out.cell 1 _ rfl
      have lt_Vw := Vw_7.out.lt
      go_wp2_with fail
      go_region_held3 (fun w' => w'.cell? ⟨w1.heap.size, 0, none⟩ = some (Value.int .i64 N) ∧ w'.cell? ⟨w1.heap.size, 1, none⟩ = some (Value.slice B xs.length d))
        (first | exact ⟨(((Va_7.out.below (Below.refl _ _).drew).below b8).below b9).cell 0 _ rfl, (((Va_7.out.below (Below.refl _ _).drew).below b8).below b9).cell 1 _ rfl⟩ | exact ⟨((Va_7.out.below (Below.refl _ _).drew).below b8).cell 0 _ rfl, ((Va_7.out.below (Below.refl _ _).drew).below b8).cell 1 _ rfl⟩ | go_keep)
        (first
          | (go_at_call 15; refine (Calls.mono (ElimI.isEmpty N B d xs _ (RB_7.out.below (Below.refl _ _).drew) hxs)) ?_; rintro e w8 ⟨rfl, b8⟩)
          | (go_at_call 16; refine (Calls.mono (ElimS.isEmpty N B d xs _ ((RB_7.out.below (Below.refl _ _).drew).below b8) hxs)) ?_; rintro e w9 ⟨rfl, b9⟩))
      have h8 : w7.heap.size ≤ w8.heap.size := b8.size
      have h9 : w8.heap.size ≤ w9.heap.size := b9.size
      have d9 : Below w7.heap.size w7 w9 := (((Below.refl w7.heap.size w7).drew.trans (b8.mono (show w7.heap.size ≤ w7.heap.size by omega))).trans (b9.mono (show w7.heap.size ≤ w8.heap.size by omega)))
      have hs9 := d9.size
      have B9 := Lib.hid (B7.out.trans (d9.mono B7.out.size))
      have RB_9 := Lib.hid (RB_7.out.below d9)
      have RT_9 := Lib.hid (RT_7.out.below d9)
      have Va_9 := Lib.hid (Va_7.out.below d9)
      have Vb_9 := Lib.hid (Vb_7.out.below d9)
      have Ol_9 := Lib.hid (Ol_7.out.below d9)
      have Vl_9 := Lib.hid (Vl_7.out.below d9)
      have Ow_9 := Lib.hid (Ow_7.out.below d9)
      have Vw_9 := Lib.hid (Vw_7.out.below d9)
      clear RB_7 RT_7 Va_7 Vb_7 Ol_7 Vl_7 Ow_7 Vw_7 c_Va_0 c_Va_1 lt_Va c_Vb_0 c_Vb_1 lt_Vb c_Vl_0 c_Vl_1 lt_Vl c_Vw_0 c_Vw_1 lt_Vw b8 h8 b9 h9 d9
      have hee : (ElimM.empB N xs == ElimM.empB N xs) = true := by simp
      have c_Va_0 := Va_9.out.cell 0 _ rfl
      have c_Va_1 := Va_9.out.cell 1 _ rfl
      have lt_Va := Va_9.out.lt
      have c_Vb_0 := Vb_9.out.cell 0 _ rfl
      have c_Vb_1 := Vb_9.out.cell 1 _ rfl
      have lt_Vb := Vb_9.out.lt
      have c_Vl_0 := Vl_9.out.cell 0 _ rfl
      have c_Vl_1 := Vl_9.out.cell 1 _ rfl
      have lt_Vl := Vl_9.out.lt
      have c_Vw_0 := Vw_9.out.cell 0 _ rfl
      have c_Vw_1 := Vw_9.out.cell 1 _ rfl
      have lt_Vw := Vw_9.out.lt
      go_wp2
      go_ret
      exact ⟨rfl, B9.out⟩
  · go_enter Try.func3, Try.ntmps3
    go_wp2_with fail
    refine (Draw.great A n c hn _).mono ?_
    rintro e w' ⟨rfl, rfl⟩
    go_wp2
    go_ret
    exact ⟨rfl, Below.refl _ _⟩

set_option maxRecDepth 100000 in
theorem lifted (os : Os) (started : os.Started) (H : Type) (enc : TypeId × Value → H) :
    ReturnsInHanded {} Try.checked os 3 .any (Rows.fnFoundSpec.pre6 enc Try.prog Try.f3 Rows.fnFoundRow.domain false) (Rows.fnFoundSpec.post enc Try.prog Try.f3 false true false false) := by
  refine returnsInHanded_of_change (C := Try.checked) Frame.own started (by kernel_rfl) Try.func3
    (ChangeSpec.witness6 (enc := enc) (C := Try.checked) false ⟨#[], #[.slice none 0 0], []⟩ 8 (by kernel_rfl) (by kernel_rfl) (by kernel_rfl) (by kernel_rfl)) ?_
  intro W base args ds gs before hval0 hW _ _
  have hW' := hW
  have hval : ∀ (j : Nat) t v, Try.f3.params[j]? = some t → args[j]? = some v → Value.okWide Try.prog W .any base t v := hval0
  obtain ⟨p, q, hA0, hV, rfl, hfz, hnd⟩ := hW
  have hA : DataW.TrodAll enc Try.prog W 0 (fun _ => true) true Try.f3.params.toList args.toList ds p := hA0
  rw [Try.params3] at hA hval
  obtain ⟨v0, d0, rfl, rfl, h0⟩ := trodAll_one hA
  have hlt := fun x hx => hW'.lt x hx
  obtain ⟨rfl, rfl⟩ := trodVars_none hV
  obtain ⟨ab, nb, cb, rfl⟩ := okWide_slice Try.underlying22 (hval 0 22 v0 rfl rfl)
  obtain ⟨hb, hlb⟩ := Frame.open_code (W := W) (by kernel_rfl) Try.underlying22 Try.underlying5 h0 (fun x hx => hlt x (by simp [hx]))
  refine (walk ab nb cb W hb).mono fun e W' ⟨he, hb⟩ => ?_
  subst he
  exact ⟨_, rfl, Frame.law_post (tb := 4) Frame.laidOut (by kernel_rfl) (by kernel_rfl) (by kernel_rfl) Try.underlying4 hW' rfl hb⟩

theorem proved : Rows.FnFoundSaid :=
  OpenClaim.holds_of_wide 3 Try.f3 rfl rfl rfl rfl rfl rfl rfl ⟨rfl, rfl, rfl, rfl, rfl⟩ rfl rfl rfl rfl rfl (by kernel_rfl) Try.func3 (by kernel_rfl)
    (of_decide_eq_true (by kernel_rfl)) (by unfold Func.isWrapper; first | (rw [if_pos (by decide +kernel)]; kernel_rfl) | (rw [if_neg (by decide +kernel)]; exact ⟨rfl, rfl⟩))
    (fun os started H enc _ => lifted os started H enc)
end LawFound
end Go.Proofs.Ytmkelfjnjnjgbaa
