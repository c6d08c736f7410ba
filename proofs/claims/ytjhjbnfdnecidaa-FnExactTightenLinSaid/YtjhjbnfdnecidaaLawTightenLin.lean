/- At every linear expression, impl.TightenLin answers as its model, writes nothing into its argument and answers in new memory: the law FnExactTightenLin returns true. There is no condition. -/
import Derived.Test.YtjhjbnfdnecidaaRows
import Derived.Test.YtjhjbnfdnecidaaFrame
import Derived.Test.YtjhjbnfdnecidaaFrameLin
import Derived.Test.YtjhjbnfdnecidaaLinK
import Derived.Test.YtjhjbnfdnecidaaLinImpl
import Derived.Test.YtjhjbnfdnecidaaLinImpl2
import Derived.Test.YtjhjbnfdnecidaaLinImpl3
import Derived.Test.YtjhjbnfdnecidaaLinImpl4
import Derived.Test.YtjhjbnfdnecidaaLinSpec
import Derived.Test.YtjhjbnfdnecidaaLinSpec2
import Derived.Test.YtjhjbnfdnecidaaLinSpec3
import Derived.SliceStrings
namespace Go.Proofs.Ytjhjbnfdnecidaa
open Go.ChangeShapes Go.WideShapes Go.ChangeAt Go.RowKit
open Go.ChangeMaps (open_string shut_string)
namespace LawTightenLin
open RowK LinM
set_option maxHeartbeats 4000000 in
set_option maxRecDepth 100000 in
theorem walk (zl : Int) (Al : Option Addr) (cl : Nat) (l : List Int) (w0 : World) (hl : Row 0 w0.heap.size w0 Al (IntK.iv l)) (hlenl : l.length ≤ 9223372036854775807) (hz : -9223372036854775808 ≤ zl ∧ zl ≤ 9223372036854775807) :
    Calls Try.prog 11 #[.agg #[.int .i64 zl, .slice Al l.length cl]] w0 fun e w' => e = .returned (.bool true) ∧ Below w0.heap.size w0 w' := by
  have SP := Lib.hid (fun lo hi A c W (h : Row lo hi W A (IntK.iv l)) (hn : l.length ≤ 1000000000) => LinS.tighten lo hi zl A c l W hz.1 hz.2 h hn)
  have IM := Lib.hid (fun lo hi A c W (h : Row lo hi W A (IntK.iv l)) (hn : l.length ≤ 1000000000) => LinI.tighten lo hi zl A c l W hz.1 hz.2 h hn)
  have hT := LinI.tight_len zl l
  clear hz
  generalize tightL zl l = T at *
  have SZ := fun W => LinK.size zl Al cl 1048576 l.length W (by omega) hlenl
  unfold IntK.leftOf at SZ
  by_cases htl : l.length ≤ 1048576
  · simp only [if_pos htl] at SZ
    have HS := Lib.hid SZ
    have hnl : l.length ≤ 1000000000 := by omega
    clear SZ hlenl
    have SP := Lib.hid (fun lo hi A c W h => SP.out lo hi A c W h hnl)
    have IM := Lib.hid (fun lo hi A c W h => IM.out lo hi A c W h hnl)
    have hT1 : T.2.length ≤ 1048576 := by rw [hT]; exact htl
    clear hT
    have B0 := Lib.hid (Below.refl w0.heap.size w0)
    go_enter Try.func11, Try.ntmps11
    go_wp2_with fail
    refine (Calls.mono (HS.out _)) ?_
    rintro e w1 ⟨rfl, b1⟩
    have hs1 : (w0.alloc (Obj.cells #[Value.int .i64 zl, Value.slice Al l.length cl] 43)).heap.size ≤ w1.heap.size := b1.size
    simp only [World.size_alloc] at hs1
    have d1 : Below w0.heap.size w0 w1 := ((Below.refl w0.heap.size w0).alloc (by first | (simp; done) | (simp; omega)) (Obj.cells #[Value.int .i64 zl, Value.slice Al l.length cl] 43)).trans (b1.mono (show w0.heap.size ≤ (w0.alloc (Obj.cells #[Value.int .i64 zl, Value.slice Al l.length cl] 43)).heap.size by first | exact Nat.le_refl _ | (simp; done) | (simp; omega)))
    have B1 := Lib.hid (B0.out.trans (d1.mono B0.out.size))
    have Va_1 := Lib.hid ((Lvar.new w0 #[Value.int .i64 zl, Value.slice Al l.length cl] 43).below b1)
    clear b1 d1
    have c_Va_0 := Va_1.out.cell 0 _ rfl
    have c_Va_1 := Va_1.out.cell 1 _ rfl
    have lt_Va := Va_1.out.lt
    go_wp2_with fail
    refine (Calls.mono (LinK.copy 0 w0.heap.size zl Al cl l _ (hl.below B1.out) hnl)) ?_
    rintro e w2 ⟨X0, rfl, rt, ft, b2⟩
    have hs2 : w1.heap.size ≤ w2.heap.size := b2.size
    have d2 : Below w1.heap.size w1 w2 := (Below.refl w1.heap.size w1).trans (b2.mono (show w1.heap.size ≤ w1.heap.size by first | exact Nat.le_refl _ | (simp; done) | (simp; omega)))
    have B2 := Lib.hid (B1.out.trans (d2.mono B1.out.size))
    have Va_2 := Lib.hid (Va_1.out.below d2)
    clear Va_1 c_Va_0 c_Va_1 lt_Va b2 d2
    have c_Va_0 := Va_2.out.cell 0 _ rfl
    have c_Va_1 := Va_2.out.cell 1 _ rfl
    have lt_Va := Va_2.out.lt
    go_wp2_with fail
    refine (Calls.mono (SP.out _ _ X0 l.length _ rt)) ?_
    rintro e w3 ⟨W, cw, rfl, rw, fw, b3⟩
    have Ow := Lib.hid (show IntK.Own (w2.heap.size) w3.heap.size w3 W T.2 from ⟨rw, fw⟩)
    have hs3 : w2.heap.size ≤ w3.heap.size := b3.size
    have d3 : Below w2.heap.size w2 w3 := (Below.refl w2.heap.size w2).trans (b3.mono (show w2.heap.size ≤ w2.heap.size by first | exact Nat.le_refl _ | (simp; done) | (simp; omega)))
    have B3 := Lib.hid (B2.out.trans (d3.mono B2.out.size))
    have Va_3 := Lib.hid (Va_2.out.below d3)
    clear Va_2 c_Va_0 c_Va_1 lt_Va b3 d3
    have c_Va_0 := Va_3.out.cell 0 _ rfl
    have c_Va_1 := Va_3.out.cell 1 _ rfl
    have lt_Va := Va_3.out.lt
    go_wp2_with fail
    refine (Calls.mono (LinK.copy 0 w0.heap.size zl Al cl l _ (hl.below (B3.out.trans (((Below.refl w3.heap.size w3).alloc (by first | (simp; done) | (simp; omega)) (Obj.cells #[Value.int .i64 T.1, Value.slice W T.2.length cw] 26)).mono B3.out.size))) hnl)) ?_
    rintro e w4 ⟨X1, rfl, rx, fx, b4⟩
    simp only [World.size_alloc] at rx
    have Ox := Lib.hid (show IntK.Own (w3.heap.size + 1) w4.heap.size w4 X1 l from ⟨rx, fx⟩)
    have hs4 : (w3.alloc (Obj.cells #[Value.int .i64 T.1, Value.slice W T.2.length cw] 26)).heap.size ≤ w4.heap.size := b4.size
    simp only [World.size_alloc] at hs4
    have d4 : Below w3.heap.size w3 w4 := ((Below.refl w3.heap.size w3).alloc (by first | (simp; done) | (simp; omega)) (Obj.cells #[Value.int .i64 T.1, Value.slice W T.2.length cw] 26)).trans (b4.mono (show w3.heap.size ≤ (w3.alloc (Obj.cells #[Value.int .i64 T.1, Value.slice W T.2.length cw] 26)).heap.size by first | exact Nat.le_refl _ | (simp; done) | (simp; omega)))
    have B4 := Lib.hid (B3.out.trans (d4.mono B3.out.size))
    have Va_4 := Lib.hid (Va_3.out.below d4)
    have Ow_4 := Lib.hid (Ow.out.below d4)
    have Vw_4 := Lib.hid ((Lvar.new w3 #[Value.int .i64 T.1, Value.slice W T.2.length cw] 26).below b4)
    clear Va_3 Ow c_Va_0 c_Va_1 lt_Va b4 d4
    have c_Va_0 := Va_4.out.cell 0 _ rfl
    have c_Va_1 := Va_4.out.cell 1 _ rfl
    have lt_Va := Va_4.out.lt
    have c_Vw_0 := Vw_4.out.cell 0 _ rfl
    have c_Vw_1 := Vw_4.out.cell 1 _ rfl
    have lt_Vw := Vw_4.out.lt
    go_wp2_with fail
    refine (Calls.mono (IM.out _ _ X1 l.length _ (Ox.out.below ((Below.refl w4.heap.size w4).alloc (by first | (simp; done) | (simp; omega)) (Obj.cells #[Value.int .i64 zl, Value.slice X1 l.length l.length] 26))).1)) ?_
    rintro e w5 ⟨G, cg, rfl, rg, fg, b5⟩
    simp only [World.size_alloc] at rg
    have Og := Lib.hid (show IntK.Own (w4.heap.size + 1) w5.heap.size w5 G T.2 from ⟨rg, fg⟩)
    have hs5 : (w4.alloc (Obj.cells #[Value.int .i64 zl, Value.slice X1 l.length l.length] 26)).heap.size ≤ w5.heap.size := b5.size
    simp only [World.size_alloc] at hs5
    have d5 : Below w4.heap.size w4 w5 := ((Below.refl w4.heap.size w4).alloc (by first | (simp; done) | (simp; omega)) (Obj.cells #[Value.int .i64 zl, Value.slice X1 l.length l.length] 26)).trans (b5.mono (show w4.heap.size ≤ (w4.alloc (Obj.cells #[Value.int .i64 zl, Value.slice X1 l.length l.length] 26)).heap.size by first | exact Nat.le_refl _ | (simp; done) | (simp; omega)))
    have B5 := Lib.hid (B4.out.trans (d5.mono B4.out.size))
    have Va_5 := Lib.hid (Va_4.out.below d5)
    have Ow_5 := Lib.hid (Ow_4.out.below d5)
    have Vw_5 := Lib.hid (Vw_4.out.below d5)
    have Ox_5 := Lib.hid (Ox.out.below d5)
    have Vx_5 := Lib.hid ((Lvar.new w4 #[Value.int .i64 zl, Value.slice X1 l.length l.length] 26).below b5)
    clear Va_4 Ow_4 Vw_4 Ox c_Va_0 c_Va_1 lt_Va c_Vw_0 c_Vw_1 lt_Vw b5 d5
    have c_Va_0 := Va_5.out.cell 0 _ rfl
    have c_Va_1 := Va_5.out.cell 1 _ rfl
    have lt_Va := Va_5.out.lt
    have c_Vw_0 := Vw_5.out.cell 0 _ rfl
    have c_Vw_1 := Vw_5.out.cell 1 _ rfl
    have lt_Vw := Vw_5.out.lt
    have c_Vx_0 := Vx_5.out.cell 0 _ rfl
    have c_Vx_1 := Vx_5.out.cell 1 _ rfl
    have lt_Vx := Vx_5.out.lt
    go_wp2_with fail
    refine (Calls.mono (LinK.eq_same _ _ _ _ T.1 G W cg cw T.2 _ (Og.out.below ((Below.refl w5.heap.size w5).alloc (by first | (simp; done) | (simp; omega)) (Obj.cells #[Value.int .i64 T.1, Value.slice G T.2.length cg] 26))).1 (Ow_5.out.below ((Below.refl w5.heap.size w5).alloc (by first | (simp; done) | (simp; omega)) (Obj.cells #[Value.int .i64 T.1, Value.slice G T.2.length cg] 26))).1 (by omega))) ?_
    rintro e w6 ⟨rfl, b6⟩
    have hs6 : (w5.alloc (Obj.cells #[Value.int .i64 T.1, Value.slice G T.2.length cg] 26)).heap.size ≤ w6.heap.size := b6.size
    simp only [World.size_alloc] at hs6
    have d6 : Below w5.heap.size w5 w6 := ((Below.refl w5.heap.size w5).alloc (by first | (simp; done) | (simp; omega)) (Obj.cells #[Value.int .i64 T.1, Value.slice G T.2.length cg] 26)).trans (b6.mono (show w5.heap.size ≤ (w5.alloc (Obj.cells #[Value.int .i64 T.1, Value.slice G T.2.length cg] 26)).heap.size by first | exact Nat.le_refl _ | (simp; done) | (simp; omega)))
    have B6 := Lib.hid (B5.out.trans (d6.mono B5.out.size))
    have Va_6 := Lib.hid (Va_5.out.below d6)
    have Ow_6 := Lib.hid (Ow_5.out.below d6)
    have Vw_6 := Lib.hid (Vw_5.out.below d6)
    have Ox_6 := Lib.hid (Ox_5.out.below d6)
    have Vx_6 := Lib.hid (Vx_5.out.below d6)
    have Og_6 := Lib.hid (Og.out.below d6)
    have Vg_6 := Lib.hid ((Lvar.new w5 #[Value.int .i64 T.1, Value.slice G T.2.length cg] 26).below b6)
    clear Va_5 Ow_5 Vw_5 Ox_5 Vx_5 Og c_Va_0 c_Va_1 lt_Va c_Vw_0 c_Vw_1 lt_Vw c_Vx_0 c_Vx_1 lt_Vx b6 d6
    have c_Va_0 := Va_6.out.cell 0 _ rfl
    have c_Va_1 := Va_6.out.cell 1 _ rfl
    have lt_Va := Va_6.out.lt
    have c_Vw_0 := Vw_6.out.cell 0 _ rfl
    have c_Vw_1 := Vw_6.out.cell 1 _ rfl
    have lt_Vw := Vw_6.out.lt
    have c_Vx_0 := Vx_6.out.cell 0 _ rfl
    have c_Vx_1 := Vx_6.out.cell 1 _ rfl
    have lt_Vx := Vx_6.out.lt
    have c_Vg_0 := Vg_6.out.cell 0 _ rfl
    have c_Vg_1 := Vg_6.out.cell 1 _ rfl
    have lt_Vg := Vg_6.out.lt
    go_wp2_with fail
    go_region_held3 (fun w' => w'.cell? ⟨w4.heap.size, 0, none⟩ = some (Value.int .i64 zl) ∧ w'.cell? ⟨w4.heap.size, 1, none⟩ = some (Value.slice X1 l.length l.length) ∧ w'.cell? ⟨w0.heap.size, 0, none⟩ = some (Value.int .i64 zl) ∧ w'.cell? ⟨w0.heap.size, 1, none⟩ = some (Value.slice Al l.length cl))
      (first | exact ⟨(((Vx_6.out.below (Below.refl _ _).drew).below b7).below b8).cell 0 _ rfl, (((Vx_6.out.below (Below.refl _ _).drew).below b7).below b8).cell 1 _ rfl, (((Va_6.out.below (Below.refl _ _).drew).below b7).below b8).cell 0 _ rfl, (((Va_6.out.below (Below.refl _ _).drew).below b7).below b8).cell 1 _ rfl⟩ | exact ⟨((Vx_6.out.below (Below.refl _ _).drew).below b7).cell 0 _ rfl, ((Vx_6.out.below (Below.refl _ _).drew).below b7).cell 1 _ rfl, ((Va_6.out.below (Below.refl _ _).drew).below b7).cell 0 _ rfl, ((Va_6.out.below (Below.refl _ _).drew).below b7).cell 1 _ rfl⟩ | go_keep)
      (first
        | (go_at_call 35; refine (Calls.mono (LinK.copy 0 w0.heap.size zl Al cl l _ (hl.below B6.out.drew) hnl)) ?_; rintro e w7 ⟨C6, rfl, rc6, fc6, b7⟩)
        | (go_at_call 36; refine (Calls.mono (LinK.eq_same _ _ _ _ zl X1 C6 l.length l.length l _ ((Ox_6.out.1.below (Below.refl _ _).drew).below b7) rc6 (by omega))) ?_; rintro e w8 ⟨rfl, b8⟩))
    have h7 : w6.heap.size ≤ w7.heap.size := b7.size
    have h8 : w7.heap.size ≤ w8.heap.size := b8.size
    have d8 : Below w6.heap.size w6 w8 := (((Below.refl w6.heap.size w6).drew.trans (b7.mono (show w6.heap.size ≤ w6.heap.size by omega))).trans (b8.mono (show w6.heap.size ≤ w7.heap.size by omega)))
    have hs8 := d8.size
    have B8 := Lib.hid (B6.out.trans (d8.mono B6.out.size))
    have Va_8 := Lib.hid (Va_6.out.below d8)
    have Ow_8 := Lib.hid (Ow_6.out.below d8)
    have Vw_8 := Lib.hid (Vw_6.out.below d8)
    have Ox_8 := Lib.hid (Ox_6.out.below d8)
    have Vx_8 := Lib.hid (Vx_6.out.below d8)
    have Og_8 := Lib.hid (Og_6.out.below d8)
    have Vg_8 := Lib.hid (Vg_6.out.below d8)
    clear Va_6 Ow_6 Vw_6 Ox_6 Vx_6 Og_6 Vg_6 c_Va_0 c_Va_1 lt_Va c_Vw_0 c_Vw_1 lt_Vw c_Vx_0 c_Vx_1 lt_Vx c_Vg_0 c_Vg_1 lt_Vg b7 h7 b8 h8 d8
    have c_Va_0 := Va_8.out.cell 0 _ rfl
    have c_Va_1 := Va_8.out.cell 1 _ rfl
    have lt_Va := Va_8.out.lt
    have c_Vw_0 := Vw_8.out.cell 0 _ rfl
    have c_Vw_1 := Vw_8.out.cell 1 _ rfl
    have lt_Vw := Vw_8.out.lt
    have c_Vx_0 := Vx_8.out.cell 0 _ rfl
    have c_Vx_1 := Vx_8.out.cell 1 _ rfl
    have lt_Vx := Vx_8.out.lt
    have c_Vg_0 := Vg_8.out.cell 0 _ rfl
    have c_Vg_1 := Vg_8.out.cell 1 _ rfl
    have lt_Vg := Vg_8.out.lt
    go_wp2_with fail
    refine (Calls.mono (LinK.mark1 (w3.heap.size + 1) w4.heap.size zl X1 l.length l _ Ox_8.out hnl)) ?_
    rintro e w9 ⟨rfl, rm0, b9⟩
    have hs9 := b9.size
    have B9 := Lib.hid (below_mod B8.out b9 (by have := B8.out.size; omega) B8.out.size)
    have Va_9 := Lib.hid (Va_8.out.keep b9 (by omega))
    have Ow_9 := Lib.hid (Ow_8.out.keep b9 (by omega))
    have Vw_9 := Lib.hid (Vw_8.out.keep b9 (by omega))
    have Vx_9 := Lib.hid (Vx_8.out.keep b9 (by omega))
    have Og_9 := Lib.hid (Og_8.out.keep b9 (by omega))
    have Vg_9 := Lib.hid (Vg_8.out.keep b9 (by omega))
    clear Va_8 Ow_8 Vw_8 Vx_8 Og_8 Vg_8 c_Va_0 c_Va_1 lt_Va c_Vw_0 c_Vw_1 lt_Vw c_Vx_0 c_Vx_1 lt_Vx c_Vg_0 c_Vg_1 lt_Vg b9
    clear rm0 Ox_8
    have c_Va_0 := Va_9.out.cell 0 _ rfl
    have c_Va_1 := Va_9.out.cell 1 _ rfl
    have lt_Va := Va_9.out.lt
    have c_Vw_0 := Vw_9.out.cell 0 _ rfl
    have c_Vw_1 := Vw_9.out.cell 1 _ rfl
    have lt_Vw := Vw_9.out.lt
    have c_Vx_0 := Vx_9.out.cell 0 _ rfl
    have c_Vx_1 := Vx_9.out.cell 1 _ rfl
    have lt_Vx := Vx_9.out.lt
    have c_Vg_0 := Vg_9.out.cell 0 _ rfl
    have c_Vg_1 := Vg_9.out.cell 1 _ rfl
    have lt_Vg := Vg_9.out.lt
    go_wp2_with fail
    refine (Calls.mono (LinK.eq_same _ _ _ _ T.1 G W cg cw T.2 _ Og_9.out.1 Ow_9.out.1 (by omega))) ?_
    rintro e w10 ⟨rfl, b10⟩
    have hs10 : w9.heap.size ≤ w10.heap.size := b10.size
    have d10 : Below w9.heap.size w9 w10 := (Below.refl w9.heap.size w9).trans (b10.mono (show w9.heap.size ≤ w9.heap.size by first | exact Nat.le_refl _ | (simp; done) | (simp; omega)))
    have B10 := Lib.hid (B9.out.trans (d10.mono B9.out.size))
    have Va_10 := Lib.hid (Va_9.out.below d10)
    have Ow_10 := Lib.hid (Ow_9.out.below d10)
    have Vw_10 := Lib.hid (Vw_9.out.below d10)
    have Vx_10 := Lib.hid (Vx_9.out.below d10)
    have Og_10 := Lib.hid (Og_9.out.below d10)
    have Vg_10 := Lib.hid (Vg_9.out.below d10)
    clear Va_9 Ow_9 Vw_9 Vx_9 Og_9 Vg_9 c_Va_0 c_Va_1 lt_Va c_Vw_0 c_Vw_1 lt_Vw c_Vx_0 c_Vx_1 lt_Vx c_Vg_0 c_Vg_1 lt_Vg b10 d10
    have c_Va_0 := Va_10.out.cell 0 _ rfl
    have c_Va_1 := Va_10.out.cell 1 _ rfl
    have lt_Va := Va_10.out.lt
    have c_Vw_0 := Vw_10.out.cell 0 _ rfl
    have c_Vw_1 := Vw_10.out.cell 1 _ rfl
    have lt_Vw := Vw_10.out.lt
    have c_Vx_0 := Vx_10.out.cell 0 _ rfl
    have c_Vx_1 := Vx_10.out.cell 1 _ rfl
    have lt_Vx := Vx_10.out.lt
    have c_Vg_0 := Vg_10.out.cell 0 _ rfl
    have c_Vg_1 := Vg_10.out.cell 1 _ rfl
    have lt_Vg := Vg_10.out.lt
    go_wp2_with fail
    refine (Calls.mono (LinK.mark1 (w4.heap.size + 1) w5.heap.size T.1 G cg T.2 _ Og_10.out (by omega))) ?_
    rintro e w11 ⟨rfl, rm, b11⟩
    have hs11 := b11.size
    have B11 := Lib.hid (below_mod B10.out b11 (by have := B10.out.size; omega) B10.out.size)
    have Va_11 := Lib.hid (Va_10.out.keep b11 (by omega))
    have Ow_11 := Lib.hid (Ow_10.out.keep b11 (by omega))
    have Vw_11 := Lib.hid (Vw_10.out.keep b11 (by omega))
    have Vx_11 := Lib.hid (Vx_10.out.keep b11 (by omega))
    have Vg_11 := Lib.hid (Vg_10.out.keep b11 (by omega))
    clear Va_10 Ow_10 Vw_10 Vx_10 Vg_10 c_Va_0 c_Va_1 lt_Va c_Vw_0 c_Vw_1 lt_Vw c_Vx_0 c_Vx_1 lt_Vx c_Vg_0 c_Vg_1 lt_Vg b11
    have Rg := Lib.hid rm
    clear rm Og_10
    have c_Va_0 := Va_11.out.cell 0 _ rfl
    have c_Va_1 := Va_11.out.cell 1 _ rfl
    have lt_Va := Va_11.out.lt
    have c_Vw_0 := Vw_11.out.cell 0 _ rfl
    have c_Vw_1 := Vw_11.out.cell 1 _ rfl
    have lt_Vw := Vw_11.out.lt
    have c_Vx_0 := Vx_11.out.cell 0 _ rfl
    have c_Vx_1 := Vx_11.out.cell 1 _ rfl
    have lt_Vx := Vx_11.out.lt
    have c_Vg_0 := Vg_11.out.cell 0 _ rfl
    have c_Vg_1 := Vg_11.out.cell 1 _ rfl
    have lt_Vg := Vg_11.out.lt
    go_wp2_with fail
    refine (Calls.mono (LinK.held1 _ _ T.1 G cg T.2.length _ Rg.out (by omega))) ?_
    rintro e w12 ⟨rfl, b12⟩
    have hs12 : w11.heap.size ≤ w12.heap.size := b12.size
    have d12 : Below w11.heap.size w11 w12 := (Below.refl w11.heap.size w11).trans (b12.mono (show w11.heap.size ≤ w11.heap.size by first | exact Nat.le_refl _ | (simp; done) | (simp; omega)))
    have B12 := Lib.hid (B11.out.trans (d12.mono B11.out.size))
    have Va_12 := Lib.hid (Va_11.out.below d12)
    have Ow_12 := Lib.hid (Ow_11.out.below d12)
    have Vw_12 := Lib.hid (Vw_11.out.below d12)
    have Vx_12 := Lib.hid (Vx_11.out.below d12)
    have Vg_12 := Lib.hid (Vg_11.out.below d12)
    have Rg_12 := Lib.hid (Rg.out.below d12)
    clear Va_11 Ow_11 Vw_11 Vx_11 Vg_11 Rg c_Va_0 c_Va_1 lt_Va c_Vw_0 c_Vw_1 lt_Vw c_Vx_0 c_Vx_1 lt_Vx c_Vg_0 c_Vg_1 lt_Vg b12 d12
    have c_Va_0 := Va_12.out.cell 0 _ rfl
    have c_Va_1 := Va_12.out.cell 1 _ rfl
    have lt_Va := Va_12.out.lt
    have c_Vw_0 := Vw_12.out.cell 0 _ rfl
    have c_Vw_1 := Vw_12.out.cell 1 _ rfl
    have lt_Vw := Vw_12.out.lt
    have c_Vx_0 := Vx_12.out.cell 0 _ rfl
    have c_Vx_1 := Vx_12.out.cell 1 _ rfl
    have lt_Vx := Vx_12.out.lt
    have c_Vg_0 := Vg_12.out.cell 0 _ rfl
    have c_Vg_1 := Vg_12.out.cell 1 _ rfl
    have lt_Vg := Vg_12.out.lt
    go_wp2_with fail
    refine (Calls.mono (LinK.copy 0 w0.heap.size zl Al cl l _ (hl.below B12.out) hnl)) ?_
    rintro e w13 ⟨X2, rfl, rt2, ft2, b13⟩
    have hs13 : w12.heap.size ≤ w13.heap.size := b13.size
    have d13 : Below w12.heap.size w12 w13 := (Below.refl w12.heap.size w12).trans (b13.mono (show w12.heap.size ≤ w12.heap.size by first | exact Nat.le_refl _ | (simp; done) | (simp; omega)))
    have B13 := Lib.hid (B12.out.trans (d13.mono B12.out.size))
    have Va_13 := Lib.hid (Va_12.out.below d13)
    have Ow_13 := Lib.hid (Ow_12.out.below d13)
    have Vw_13 := Lib.hid (Vw_12.out.below d13)
    have Vx_13 := Lib.hid (Vx_12.out.below d13)
    have Vg_13 := Lib.hid (Vg_12.out.below d13)
    have Rg_13 := Lib.hid (Rg_12.out.below d13)
    clear Va_12 Ow_12 Vw_12 Vx_12 Vg_12 Rg_12 c_Va_0 c_Va_1 lt_Va c_Vw_0 c_Vw_1 lt_Vw c_Vx_0 c_Vx_1 lt_Vx c_Vg_0 c_Vg_1 lt_Vg b13 d13
    have c_Va_0 := Va_13.out.cell 0 _ rfl
    have c_Va_1 := Va_13.out.cell 1 _ rfl
    have lt_Va := Va_13.out.lt
    have c_Vw_0 := Vw_13.out.cell 0 _ rfl
    have c_Vw_1 := Vw_13.out.cell 1 _ rfl
    have lt_Vw := Vw_13.out.lt
    have c_Vx_0 := Vx_13.out.cell 0 _ rfl
    have c_Vx_1 := Vx_13.out.cell 1 _ rfl
    have lt_Vx := Vx_13.out.lt
    have c_Vg_0 := Vg_13.out.cell 0 _ rfl
    have c_Vg_1 := Vg_13.out.cell 1 _ rfl
    have lt_Vg := Vg_13.out.lt
    go_wp2_with fail
    refine (Calls.mono (IM.out _ _ X2 l.length _ rt2)) ?_
    rintro e w14 ⟨H, ch, rfl, rh, fh, b14⟩
    have Oh := Lib.hid (show IntK.Own (w13.heap.size) w14.heap.size w14 H T.2 from ⟨rh, fh⟩)
    have hs14 : w13.heap.size ≤ w14.heap.size := b14.size
    have d14 : Below w13.heap.size w13 w14 := (Below.refl w13.heap.size w13).trans (b14.mono (show w13.heap.size ≤ w13.heap.size by first | exact Nat.le_refl _ | (simp; done) | (simp; omega)))
    have B14 := Lib.hid (B13.out.trans (d14.mono B13.out.size))
    have Va_14 := Lib.hid (Va_13.out.below d14)
    have Ow_14 := Lib.hid (Ow_13.out.below d14)
    have Vw_14 := Lib.hid (Vw_13.out.below d14)
    have Vx_14 := Lib.hid (Vx_13.out.below d14)
    have Vg_14 := Lib.hid (Vg_13.out.below d14)
    have Rg_14 := Lib.hid (Rg_13.out.below d14)
    clear Va_13 Ow_13 Vw_13 Vx_13 Vg_13 Rg_13 c_Va_0 c_Va_1 lt_Va c_Vw_0 c_Vw_1 lt_Vw c_Vx_0 c_Vx_1 lt_Vx c_Vg_0 c_Vg_1 lt_Vg b14 d14
    have c_Va_0 := Va_14.out.cell 0 _ rfl
    have c_Va_1 := Va_14.out.cell 1 _ rfl
    have lt_Va := Va_14.out.lt
    have c_Vw_0 := Vw_14.out.cell 0 _ rfl
    have c_Vw_1 := Vw_14.out.cell 1 _ rfl
    have lt_Vw := Vw_14.out.lt
    have c_Vx_0 := Vx_14.out.cell 0 _ rfl
    have c_Vx_1 := Vx_14.out.cell 1 _ rfl
    have lt_Vx := Vx_14.out.lt
    have c_Vg_0 := Vg_14.out.cell 0 _ rfl
    have c_Vg_1 := Vg_14.out.cell 1 _ rfl
    have lt_Vg := Vg_14.out.lt
    go_wp2_with fail
    refine (Calls.mono (LinK.eq_same _ _ _ _ T.1 H W ch cw T.2 _ (Oh.out.below ((Below.refl w14.heap.size w14).alloc (by first | (simp; done) | (simp; omega)) (Obj.cells #[Value.int .i64 T.1, Value.slice H T.2.length ch] 26))).1 (Ow_14.out.below ((Below.refl w14.heap.size w14).alloc (by first | (simp; done) | (simp; omega)) (Obj.cells #[Value.int .i64 T.1, Value.slice H T.2.length ch] 26))).1 (by omega))) ?_
    rintro e w15 ⟨rfl, b15⟩
    have hs15 : (w14.alloc (Obj.cells #[Value.int .i64 T.1, Value.slice H T.2.length ch] 26)).heap.size ≤ w15.heap.size := b15.size
    simp only [World.size_alloc] at hs15
    have d15 : Below w14.heap.size w14 w15 := ((Below.refl w14.heap.size w14).alloc (by first | (simp; done) | (simp; omega)) (Obj.cells #[Value.int .i64 T.1, Value.slice H T.2.length ch] 26)).trans (b15.mono (show w14.heap.size ≤ (w14.alloc (Obj.cells #[Value.int .i64 T.1, Value.slice H T.2.length ch] 26)).heap.size by first | exact Nat.le_refl _ | (simp; done) | (simp; omega)))
    have B15 := Lib.hid (B14.out.trans (d15.mono B14.out.size))
    have Va_15 := Lib.hid (Va_14.out.below d15)
    have Ow_15 := Lib.hid (Ow_14.out.below d15)
    have Vw_15 := Lib.hid (Vw_14.out.below d15)
    have Vx_15 := Lib.hid (Vx_14.out.below d15)
    have Vg_15 := Lib.hid (Vg_14.out.below d15)
    have Rg_15 := Lib.hid (Rg_14.out.below d15)
    have Oh_15 := Lib.hid (Oh.out.below d15)
    have Vh_15 := Lib.hid ((Lvar.new w14 #[Value.int .i64 T.1, Value.slice H T.2.length ch] 26).below b15)
    clear Va_14 Ow_14 Vw_14 Vx_14 Vg_14 Rg_14 Oh c_Va_0 c_Va_1 lt_Va c_Vw_0 c_Vw_1 lt_Vw c_Vx_0 c_Vx_1 lt_Vx c_Vg_0 c_Vg_1 lt_Vg b15 d15
    have c_Va_0 := Va_15.out.cell 0 _ rfl
    have c_Va_1 := Va_15.out.cell 1 _ rfl
    have lt_Va := Va_15.out.lt
    have c_Vw_0 := Vw_15.out.cell 0 _ rfl
    have c_Vw_1 := Vw_15.out.cell 1 _ rfl
    have lt_Vw := Vw_15.out.lt
    have c_Vx_0 := Vx_15.out.cell 0 _ rfl
    have c_Vx_1 := Vx_15.out.cell 1 _ rfl
    have lt_Vx := Vx_15.out.lt
    have c_Vg_0 := Vg_15.out.cell 0 _ rfl
    have c_Vg_1 := Vg_15.out.cell 1 _ rfl
    have lt_Vg := Vg_15.out.lt
    have c_Vh_0 := Vh_15.out.cell 0 _ rfl
    have c_Vh_1 := Vh_15.out.cell 1 _ rfl
    have lt_Vh := Vh_15.out.lt
    go_wp2_with fail
    refine (Calls.mono (LinK.held1 _ _ T.1 G cg T.2.length _ Rg_15.out (by omega))) ?_
    rintro e w16 ⟨rfl, b16⟩
    have hs16 : w15.heap.size ≤ w16.heap.size := b16.size
    have d16 : Below w15.heap.size w15 w16 := (Below.refl w15.heap.size w15).trans (b16.mono (show w15.heap.size ≤ w15.heap.size by first | exact Nat.le_refl _ | (simp; done) | (simp; omega)))
    have B16 := Lib.hid (B15.out.trans (d16.mono B15.out.size))
    have Va_16 := Lib.hid (Va_15.out.below d16)
    have Ow_16 := Lib.hid (Ow_15.out.below d16)
    have Vw_16 := Lib.hid (Vw_15.out.below d16)
    have Vx_16 := Lib.hid (Vx_15.out.below d16)
    have Vg_16 := Lib.hid (Vg_15.out.below d16)
    have Rg_16 := Lib.hid (Rg_15.out.below d16)
    have Oh_16 := Lib.hid (Oh_15.out.below d16)
    have Vh_16 := Lib.hid (Vh_15.out.below d16)
    clear Va_15 Ow_15 Vw_15 Vx_15 Vg_15 Rg_15 Oh_15 Vh_15 c_Va_0 c_Va_1 lt_Va c_Vw_0 c_Vw_1 lt_Vw c_Vx_0 c_Vx_1 lt_Vx c_Vg_0 c_Vg_1 lt_Vg c_Vh_0 c_Vh_1 lt_Vh b16 d16
    have c_Va_0 := Va_16.out.cell 0 _ rfl
    have c_Va_1 := Va_16.out.cell 1 _ rfl
    have lt_Va := Va_16.out.lt
    have c_Vw_0 := Vw_16.out.cell 0 _ rfl
    have c_Vw_1 := Vw_16.out.cell 1 _ rfl
    have lt_Vw := Vw_16.out.lt
    have c_Vx_0 := Vx_16.out.cell 0 _ rfl
    have c_Vx_1 := Vx_16.out.cell 1 _ rfl
    have lt_Vx := Vx_16.out.lt
    have c_Vg_0 := Vg_16.out.cell 0 _ rfl
    have c_Vg_1 := Vg_16.out.cell 1 _ rfl
    have lt_Vg := Vg_16.out.lt
    have c_Vh_0 := Vh_16.out.cell 0 _ rfl
    have c_Vh_1 := Vh_16.out.cell 1 _ rfl
    have lt_Vh := Vh_16.out.lt
    go_wp2
    go_ret
    exact ⟨rfl, B16.out⟩
  · simp only [if_neg htl] at SZ
    have HS := Lib.hid SZ
    clear SZ hlenl
    go_enter Try.func11, Try.ntmps11
    go_wp2_with fail
    refine (HS.out _).mono ?_
    rintro e w1 ⟨rfl, b1⟩
    go_wp2
    go_ret
    exact ⟨rfl, ((Below.refl _ _).alloc (by first | (simp; done) | (simp; omega)) _).trans (b1.mono (by first | (simp; done) | (simp; omega)))⟩

set_option maxRecDepth 100000 in
theorem lifted (os : Os) (started : os.Started) (H : Type) (enc : TypeId × Value → H) :
    ReturnsInHanded {} Try.checked os 11 .any (Rows.fnExactTightenLinSpec.pre6 enc Try.prog Try.f11 Rows.fnExactTightenLinRow.domain false) (Rows.fnExactTightenLinSpec.post enc Try.prog Try.f11 false true false false) := by
  refine returnsInHanded_of_change (C := Try.checked) Frame.own started (by kernel_rfl) Try.func11
    (ChangeSpec.witness6 (enc := enc) (C := Try.checked) false ⟨#[], #[.agg #[.int .i64 0, .slice none 0 0]], []⟩ 8 (by kernel_rfl) (by kernel_rfl) (by kernel_rfl) (by kernel_rfl)) ?_
  intro W base args ds gs before hval0 hW _ _
  have hW' := hW
  have hval : ∀ (j : Nat) t v, Try.f11.params[j]? = some t → args[j]? = some v → Value.okWide Try.prog W .any base t v := hval0
  obtain ⟨p, q, hA0, hV, rfl, hfz, hnd⟩ := hW
  have hA : DataW.TrodAll enc Try.prog W 0 (fun _ => true) true Try.f11.params.toList args.toList ds p := hA0
  rw [Try.params11] at hA hval
  obtain ⟨v0, d0, rfl, rfl, h0⟩ := trodAll_one hA
  have hlt := fun x hx => hW'.lt x hx
  obtain ⟨rfl, rfl⟩ := trodVars_none hV
  obtain ⟨zl, al, cl, l, rfl, wl, hrl, hll, hsl, hcl⟩ := Frame.open_lin (W := W) Try.underlying43 (by kernel_rfl) (by kernel_rfl) rfl rfl Try.underlying3 Try.underlying24 (by kernel_rfl) (hval 0 43 v0 rfl rfl) h0 (fun x hx => hlt x (by simp [hx]))
  refine (walk zl al cl l W hrl hll (bounds_i64 wl)).mono fun e W' ⟨he, hb⟩ => ?_
  subst he
  exact ⟨_, rfl, Frame.law_post (tb := 4) Frame.laidOut (by kernel_rfl) (by kernel_rfl) (by kernel_rfl) Try.underlying4 hW' rfl hb⟩

theorem proved : Rows.FnExactTightenLinSaid :=
  OpenClaim.holds_of_wide 11 Try.f11 rfl rfl rfl rfl rfl rfl rfl ⟨rfl, rfl, rfl, rfl, rfl⟩ rfl rfl rfl rfl rfl (by kernel_rfl) Try.func11 (by kernel_rfl)
    (of_decide_eq_true (by kernel_rfl)) (by unfold Func.isWrapper; first | (rw [if_pos (by decide +kernel)]; kernel_rfl) | (rw [if_neg (by decide +kernel)]; exact ⟨rfl, rfl⟩))
    (fun os started H enc _ => lifted os started H enc)
end LawTightenLin
end Go.Proofs.Ytjhjbnfdnecidaa
