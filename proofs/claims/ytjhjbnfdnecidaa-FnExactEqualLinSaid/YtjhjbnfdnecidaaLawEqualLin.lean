/- At every two linear expressions, impl.EqualLin answers as its model and writes nothing into its arguments: the law FnExactEqualLin returns true. There is no condition. -/
import Derived.Test.YtjhjbnfdnecidaaRows
import Derived.Test.YtjhjbnfdnecidaaFrame
import Derived.Test.YtjhjbnfdnecidaaFrameLin
import Derived.Test.YtjhjbnfdnecidaaLinK
import Derived.Test.YtjhjbnfdnecidaaLinImpl
import Derived.Test.YtjhjbnfdnecidaaLinImpl2
import Derived.Test.YtjhjbnfdnecidaaLinImpl3
import Derived.Test.YtjhjbnfdnecidaaLinImpl4
import Derived.Test.YtjhjbnfdnecidaaLinSpec
import Derived.Test.YtjhjbnfdnecidaaLinSpec2
import Derived.Test.YtjhjbnfdnecidaaLinSpec3
import Derived.SliceStrings
namespace Go.Proofs.Ytjhjbnfdnecidaa
open Go.ChangeShapes Go.WideShapes Go.ChangeAt Go.RowKit
open Go.ChangeMaps (open_string shut_string)
namespace LawEqualLin
open RowK LinM
set_option maxHeartbeats 4000000 in
set_option maxRecDepth 100000 in
theorem walk (zl : Int) (Al : Option Addr) (cl : Nat) (l : List Int) (zr : Int) (Ar : Option Addr) (cr : Nat) (r : List Int) (w0 : World) (hl : Row 0 w0.heap.size w0 Al (IntK.iv l)) (hlenl : l.length ≤ 9223372036854775807) (hr : Row 0 w0.heap.size w0 Ar (IntK.iv r)) (hlenr : r.length ≤ 9223372036854775807) :
    Calls Try.prog 12 #[.agg #[.int .i64 zl, .slice Al l.length cl], .agg #[.int .i64 zr, .slice Ar r.length cr]] w0 fun e w' => e = .returned (.bool true) ∧ Below w0.heap.size w0 w' := by
  have SP := Lib.hid (fun lo hi lo' hi' A B c d W (h : Row lo hi W A (IntK.iv l)) (h' : Row lo' hi' W B (IntK.iv r)) h1 h2 => LinS.equal lo hi lo' hi' zl zr A B c d l r W h h' h1 h2)
  have IM := Lib.hid (fun lo hi lo' hi' A B c d W (h : Row lo hi W A (IntK.iv l)) (h' : Row lo' hi' W B (IntK.iv r)) h1 h2 h3 h4 => LinI.equal lo hi lo' hi' zl zr A B c d l r W h h' h1 h2 h3 h4)
  generalize eqB zl zr l r = q at *
  have SZ := fun W => LinK.size zl Al cl 1048576 l.length W (by omega) hlenl
  unfold IntK.leftOf at SZ
  by_cases htl : l.length ≤ 1048576
  · simp only [if_pos htl] at SZ
    have HS := Lib.hid SZ
    have hnl : l.length ≤ 1000000000 := by omega
    clear SZ hlenl
    have hsub : ∃ t : Nat, t = 1048576 - l.length := ⟨_, rfl⟩
    obtain ⟨t, hte⟩ := hsub
    have htc : ((1048576 : Nat) : Int) - (l.length : Int) = (t : Int) := by omega
    have ht1 : t ≤ 1048576 := by omega
    rw [htc] at HS
    have SZ2 := fun W => LinK.size zr Ar cr t r.length W (by omega) hlenr
    unfold IntK.leftOf at SZ2
    clear hte htc
    by_cases htr : r.length ≤ t
    · simp only [if_pos htr] at SZ2
      have HS2 := Lib.hid SZ2
      have hnr : r.length ≤ 1000000000 := by omega
      have SP := Lib.hid (fun lo hi lo' hi' A B c d W h h' => SP.out lo hi lo' hi' A B c d W h h' hnl hnr)
      have IM := Lib.hid (fun lo hi lo' hi' A B c d W h h' h3 h4 => IM.out lo hi lo' hi' A B c d W h h' hnl hnr h3 h4)
      clear SZ2 hlenr
      have B0 := Lib.hid (Below.refl w0.heap.size w0)
      go_enter Try.func12, Try.ntmps12
      go_wp2_with fail
      refine (Calls.mono (HS.out _)) ?_
      rintro e w1 ⟨rfl, b1⟩
      have hs1 : ((w0.alloc (Obj.cells #[Value.int .i64 zl, Value.slice Al l.length cl] 43)).alloc (Obj.cells #[Value.int .i64 zr, Value.slice Ar r.length cr] 43)).heap.size ≤ w1.heap.size := b1.size
      simp only [World.size_alloc] at hs1
      have d1 : Below w0.heap.size w0 w1 := (((Below.refl w0.heap.size w0).alloc (by first | (simp; done) | (simp; omega)) (Obj.cells #[Value.int .i64 zl, Value.slice Al l.length cl] 43)).alloc (by first | (simp; done) | (simp; omega)) (Obj.cells #[Value.int .i64 zr, Value.slice Ar r.length cr] 43)).trans (b1.mono (show w0.heap.size ≤ ((w0.alloc (Obj.cells #[Value.int .i64 zl, Value.slice Al l.length cl] 43)).alloc (Obj.cells #[Value.int .i64 zr, Value.slice Ar r.length cr] 43)).heap.size by first | exact Nat.le_refl _ | (simp; done) | (simp; omega)))
      have B1 := Lib.hid (B0.out.trans (d1.mono B0.out.size))
      have Va_1 := Lib.hid (((Lvar.new w0 #[Value.int .i64 zl, Value.slice Al l.length cl] 43).alloc (Obj.cells #[Value.int .i64 zr, Value.slice Ar r.length cr] 43)).below b1)
      have Vb_1 := Lib.hid ((Lvar.new (w0.alloc (Obj.cells #[Value.int .i64 zl, Value.slice Al l.length cl] 43)) #[Value.int .i64 zr, Value.slice Ar r.length cr] 43).below b1)
      simp only [World.size_alloc] at Vb_1
      clear b1 d1
      have c_Va_0 := Va_1.out.cell 0 _ rfl
      have c_Va_1 := Va_1.out.cell 1 _ rfl
      have lt_Va := Va_1.out.lt
      have c_Vb_0 := Vb_1.out.cell 0 _ rfl
      have c_Vb_1 := Vb_1.out.cell 1 _ rfl
      have lt_Vb := Vb_1.out.lt
      go_wp2_with fail
      refine (Calls.mono (HS2.out _)) ?_
      rintro e w2 ⟨rfl, b2⟩
      have hs2 : w1.heap.size ≤ w2.heap.size := b2.size
      have d2 : Below w1.heap.size w1 w2 := (Below.refl w1.heap.size w1).trans (b2.mono (show w1.heap.size ≤ w1.heap.size by first | exact Nat.le_refl _ | (simp; done) | (simp; omega)))
      have B2 := Lib.hid (B1.out.trans (d2.mono B1.out.size))
      have Va_2 := Lib.hid (Va_1.out.below d2)
      have Vb_2 := Lib.hid (Vb_1.out.below d2)
      clear Va_1 Vb_1 c_Va_0 c_Va_1 lt_Va c_Vb_0 c_Vb_1 lt_Vb b2 d2
      have c_Va_0 := Va_2.out.cell 0 _ rfl
      have c_Va_1 := Va_2.out.cell 1 _ rfl
      have lt_Va := Va_2.out.lt
      have c_Vb_0 := Vb_2.out.cell 0 _ rfl
      have c_Vb_1 := Vb_2.out.cell 1 _ rfl
      have lt_Vb := Vb_2.out.lt
      go_wp2_with fail
      go_region_held3 (fun w' => w'.cell? ⟨w0.heap.size, 0, none⟩ = some (Value.int .i64 zl) ∧ w'.cell? ⟨w0.heap.size, 1, none⟩ = some (Value.slice Al l.length cl) ∧ w'.cell? ⟨w0.heap.size + 1, 0, none⟩ = some (Value.int .i64 zr) ∧ w'.cell? ⟨w0.heap.size + 1, 1, none⟩ = some (Value.slice Ar r.length cr))
        (first | exact ⟨((((Va_2.out.below (Below.refl _ _).drew).below b3).below b4).below b5).cell 0 _ rfl, ((((Va_2.out.below (Below.refl _ _).drew).below b3).below b4).below b5).cell 1 _ rfl, ((((Vb_2.out.below (Below.refl _ _).drew).below b3).below b4).below b5).cell 0 _ rfl, ((((Vb_2.out.below (Below.refl _ _).drew).below b3).below b4).below b5).cell 1 _ rfl⟩ | exact ⟨(((Va_2.out.below (Below.refl _ _).drew).below b3).below b4).cell 0 _ rfl, (((Va_2.out.below (Below.refl _ _).drew).below b3).below b4).cell 1 _ rfl, (((Vb_2.out.below (Below.refl _ _).drew).below b3).below b4).cell 0 _ rfl, (((Vb_2.out.below (Below.refl _ _).drew).below b3).below b4).cell 1 _ rfl⟩ | exact ⟨((Va_2.out.below (Below.refl _ _).drew).below b3).cell 0 _ rfl, ((Va_2.out.below (Below.refl _ _).drew).below b3).cell 1 _ rfl, ((Vb_2.out.below (Below.refl _ _).drew).below b3).cell 0 _ rfl, ((Vb_2.out.below (Below.refl _ _).drew).below b3).cell 1 _ rfl⟩ | go_keep)
        (first
          | (go_at_call_of 35 (Value.agg #[.int .i64 zl, .slice Al l.length cl]); refine (Calls.mono (LinK.copy 0 w0.heap.size zl Al cl l _ (hl.below B2.out.drew) hnl)) ?_; rintro e w3 ⟨C1, rfl, rc1, fc1, b3⟩)
          | (go_at_call_of 35 (Value.agg #[.int .i64 zr, .slice Ar r.length cr]); refine (Calls.mono (LinK.copy 0 w0.heap.size zr Ar cr r _ (hr.below ((B2.out.drew).trans (b3.mono B2.out.size))) hnr)) ?_; rintro e w4 ⟨C2, rfl, rc2, fc2, b4⟩)
          | (go_at_call 24; refine (Calls.mono (SP.out _ _ _ _ C1 C2 l.length r.length _ (rc1.below b4) rc2)) ?_; rintro e w5 ⟨rfl, b5⟩))
      have h3 : w2.heap.size ≤ w3.heap.size := b3.size
      have h4 : w3.heap.size ≤ w4.heap.size := b4.size
      have h5 : w4.heap.size ≤ w5.heap.size := b5.size
      have d5 : Below w2.heap.size w2 w5 := ((((Below.refl w2.heap.size w2).drew.trans (b3.mono (show w2.heap.size ≤ w2.heap.size by omega))).trans (b4.mono (show w2.heap.size ≤ w3.heap.size by omega))).trans (b5.mono (show w2.heap.size ≤ w4.heap.size by omega)))
      have hs5 := d5.size
      have B5 := Lib.hid (B2.out.trans (d5.mono B2.out.size))
      have Va_5 := Lib.hid (Va_2.out.below d5)
      have Vb_5 := Lib.hid (Vb_2.out.below d5)
      clear Va_2 Vb_2 c_Va_0 c_Va_1 lt_Va c_Vb_0 c_Vb_1 lt_Vb b3 h3 b4 h4 b5 h5 d5
      have c_Va_0 := Va_5.out.cell 0 _ rfl
      have c_Va_1 := Va_5.out.cell 1 _ rfl
      have lt_Va := Va_5.out.lt
      have c_Vb_0 := Vb_5.out.cell 0 _ rfl
      have c_Vb_1 := Vb_5.out.cell 1 _ rfl
      have lt_Vb := Vb_5.out.lt
      go_wp2_with fail
      refine (Calls.mono (LinK.copy 0 w0.heap.size zl Al cl l _ (hl.below B5.out) hnl)) ?_
      rintro e w6 ⟨X1, rfl, rx, fx, b6⟩
      have Ox := Lib.hid (show IntK.Own (w5.heap.size) w6.heap.size w6 X1 l from ⟨rx, fx⟩)
      have hs6 : w5.heap.size ≤ w6.heap.size := b6.size
      have d6 : Below w5.heap.size w5 w6 := (Below.refl w5.heap.size w5).trans (b6.mono (show w5.heap.size ≤ w5.heap.size by first | exact Nat.le_refl _ | (simp; done) | (simp; omega)))
      have B6 := Lib.hid (B5.out.trans (d6.mono B5.out.size))
      have Va_6 := Lib.hid (Va_5.out.below d6)
      have Vb_6 := Lib.hid (Vb_5.out.below d6)
      clear Va_5 Vb_5 c_Va_0 c_Va_1 lt_Va c_Vb_0 c_Vb_1 lt_Vb b6 d6
      have c_Va_0 := Va_6.out.cell 0 _ rfl
      have c_Va_1 := Va_6.out.cell 1 _ rfl
      have lt_Va := Va_6.out.lt
      have c_Vb_0 := Vb_6.out.cell 0 _ rfl
      have c_Vb_1 := Vb_6.out.cell 1 _ rfl
      have lt_Vb := Vb_6.out.lt
      go_wp2_with fail
      refine (Calls.mono (LinK.copy 0 w0.heap.size zr Ar cr r _ (hr.below (B6.out.trans (((Below.refl w6.heap.size w6).alloc (by first | (simp; done) | (simp; omega)) (Obj.cells #[Value.int .i64 zl, Value.slice X1 l.length l.length] 26)).mono B6.out.size))) hnr)) ?_
      rintro e w7 ⟨Y1, rfl, ry, fy, b7⟩
      simp only [World.size_alloc] at ry
      have Oy := Lib.hid (show IntK.Own (w6.heap.size + 1) w7.heap.size w7 Y1 r from ⟨ry, fy⟩)
      have hs7 : (w6.alloc (Obj.cells #[Value.int .i64 zl, Value.slice X1 l.length l.length] 26)).heap.size ≤ w7.heap.size := b7.size
      simp only [World.size_alloc] at hs7
      have d7 : Below w6.heap.size w6 w7 := ((Below.refl w6.heap.size w6).alloc (by first | (simp; done) | (simp; omega)) (Obj.cells #[Value.int .i64 zl, Value.slice X1 l.length l.length] 26)).trans (b7.mono (show w6.heap.size ≤ (w6.alloc (Obj.cells #[Value.int .i64 zl, Value.slice X1 l.length l.length] 26)).heap.size by first | exact Nat.le_refl _ | (simp; done) | (simp; omega)))
      have B7 := Lib.hid (B6.out.trans (d7.mono B6.out.size))
      have Va_7 := Lib.hid (Va_6.out.below d7)
      have Vb_7 := Lib.hid (Vb_6.out.below d7)
      have Ox_7 := Lib.hid (Ox.out.below d7)
      have Vx_7 := Lib.hid ((Lvar.new w6 #[Value.int .i64 zl, Value.slice X1 l.length l.length] 26).below b7)
      clear Va_6 Vb_6 Ox c_Va_0 c_Va_1 lt_Va c_Vb_0 c_Vb_1 lt_Vb b7 d7
      have c_Va_0 := Va_7.out.cell 0 _ rfl
      have c_Va_1 := Va_7.out.cell 1 _ rfl
      have lt_Va := Va_7.out.lt
      have c_Vb_0 := Vb_7.out.cell 0 _ rfl
      have c_Vb_1 := Vb_7.out.cell 1 _ rfl
      have lt_Vb := Vb_7.out.lt
      have c_Vx_0 := Vx_7.out.cell 0 _ rfl
      have c_Vx_1 := Vx_7.out.cell 1 _ rfl
      have lt_Vx := Vx_7.out.lt
      go_wp2_with fail
      refine (Calls.mono (IM.out _ _ _ _ X1 Y1 l.length r.length _ (Ox_7.out.below ((Below.refl w7.heap.size w7).alloc (by first | (simp; done) | (simp; omega)) (Obj.cells #[Value.int .i64 zr, Value.slice Y1 r.length r.length] 26))).1 (Oy.out.below ((Below.refl w7.heap.size w7).alloc (by first | (simp; done) | (simp; omega)) (Obj.cells #[Value.int .i64 zr, Value.slice Y1 r.length r.length] 26))).1 (Nat.le_refl _) (Nat.le_refl _))) ?_
      rintro e w8 ⟨rfl, b8⟩
      have hs8 : (w7.alloc (Obj.cells #[Value.int .i64 zr, Value.slice Y1 r.length r.length] 26)).heap.size ≤ w8.heap.size := b8.size
      simp only [World.size_alloc] at hs8
      have d8 : Below w7.heap.size w7 w8 := ((Below.refl w7.heap.size w7).alloc (by first | (simp; done) | (simp; omega)) (Obj.cells #[Value.int .i64 zr, Value.slice Y1 r.length r.length] 26)).trans (b8.mono (show w7.heap.size ≤ (w7.alloc (Obj.cells #[Value.int .i64 zr, Value.slice Y1 r.length r.length] 26)).heap.size by first | exact Nat.le_refl _ | (simp; done) | (simp; omega)))
      have B8 := Lib.hid (B7.out.trans (d8.mono B7.out.size))
      have Va_8 := Lib.hid (Va_7.out.below d8)
      have Vb_8 := Lib.hid (Vb_7.out.below d8)
      have Ox_8 := Lib.hid (Ox_7.out.below d8)
      have Vx_8 := Lib.hid (Vx_7.out.below d8)
      have Oy_8 := Lib.hid (Oy.out.below d8)
      have Vy_8 := Lib.hid ((Lvar.new w7 #[Value.int .i64 zr, Value.slice Y1 r.length r.length] 26).below b8)
      clear Va_7 Vb_7 Ox_7 Vx_7 Oy c_Va_0 c_Va_1 lt_Va c_Vb_0 c_Vb_1 lt_Vb c_Vx_0 c_Vx_1 lt_Vx b8 d8
      have c_Va_0 := Va_8.out.cell 0 _ rfl
      have c_Va_1 := Va_8.out.cell 1 _ rfl
      have lt_Va := Va_8.out.lt
      have c_Vb_0 := Vb_8.out.cell 0 _ rfl
      have c_Vb_1 := Vb_8.out.cell 1 _ rfl
      have lt_Vb := Vb_8.out.lt
      have c_Vx_0 := Vx_8.out.cell 0 _ rfl
      have c_Vx_1 := Vx_8.out.cell 1 _ rfl
      have lt_Vx := Vx_8.out.lt
      have c_Vy_0 := Vy_8.out.cell 0 _ rfl
      have c_Vy_1 := Vy_8.out.cell 1 _ rfl
      have lt_Vy := Vy_8.out.lt
      go_wp2_with fail
      go_region_held3 (fun w' => w'.cell? ⟨w6.heap.size, 0, none⟩ = some (Value.int .i64 zl) ∧ w'.cell? ⟨w6.heap.size, 1, none⟩ = some (Value.slice X1 l.length l.length) ∧ w'.cell? ⟨w0.heap.size, 0, none⟩ = some (Value.int .i64 zl) ∧ w'.cell? ⟨w0.heap.size, 1, none⟩ = some (Value.slice Al l.length cl))
        (first | exact ⟨(((Vx_8.out.below (Below.refl _ _).drew).below b9).below b10).cell 0 _ rfl, (((Vx_8.out.below (Below.refl _ _).drew).below b9).below b10).cell 1 _ rfl, (((Va_8.out.below (Below.refl _ _).drew).below b9).below b10).cell 0 _ rfl, (((Va_8.out.below (Below.refl _ _).drew).below b9).below b10).cell 1 _ rfl⟩ | exact ⟨((Vx_8.out.below (Below.refl _ _).drew).below b9).cell 0 _ rfl, ((Vx_8.out.below (Below.refl _ _).drew).below b9).cell 1 _ rfl, ((Va_8.out.below (Below.refl _ _).drew).below b9).cell 0 _ rfl, ((Va_8.out.below (Below.refl _ _).drew).below b9).cell 1 _ rfl⟩ | go_keep)
        (first
          | (go_at_call 35; refine (Calls.mono (LinK.copy 0 w0.heap.size zl Al cl l _ (hl.below B8.out.drew) hnl)) ?_; rintro e w9 ⟨C8, rfl, rc8, fc8, b9⟩)
          | (go_at_call 36; refine (Calls.mono (LinK.eq_same _ _ _ _ zl X1 C8 l.length l.length l _ ((Ox_8.out.1.below (Below.refl _ _).drew).below b9) rc8 (by omega))) ?_; rintro e w10 ⟨rfl, b10⟩))
      have h9 : w8.heap.size ≤ w9.heap.size := b9.size
      have h10 : w9.heap.size ≤ w10.heap.size := b10.size
      have d10 : Below w8.heap.size w8 w10 := (((Below.refl w8.heap.size w8).drew.trans (b9.mono (show w8.heap.size ≤ w8.heap.size by omega))).trans (b10.mono (show w8.heap.size ≤ w9.heap.size by omega)))
      have hs10 := d10.size
      have B10 := Lib.hid (B8.out.trans (d10.mono B8.out.size))
      have Va_10 := Lib.hid (Va_8.out.below d10)
      have Vb_10 := Lib.hid (Vb_8.out.below d10)
      have Ox_10 := Lib.hid (Ox_8.out.below d10)
      have Vx_10 := Lib.hid (Vx_8.out.below d10)
      have Oy_10 := Lib.hid (Oy_8.out.below d10)
      have Vy_10 := Lib.hid (Vy_8.out.below d10)
      clear Va_8 Vb_8 Ox_8 Vx_8 Oy_8 Vy_8 c_Va_0 c_Va_1 lt_Va c_Vb_0 c_Vb_1 lt_Vb c_Vx_0 c_Vx_1 lt_Vx c_Vy_0 c_Vy_1 lt_Vy b9 h9 b10 h10 d10
      have c_Va_0 := Va_10.out.cell 0 _ rfl
      have c_Va_1 := Va_10.out.cell 1 _ rfl
      have lt_Va := Va_10.out.lt
      have c_Vb_0 := Vb_10.out.cell 0 _ rfl
      have c_Vb_1 := Vb_10.out.cell 1 _ rfl
      have lt_Vb := Vb_10.out.lt
      have c_Vx_0 := Vx_10.out.cell 0 _ rfl
      have c_Vx_1 := Vx_10.out.cell 1 _ rfl
      have lt_Vx := Vx_10.out.lt
      have c_Vy_0 := Vy_10.out.cell 0 _ rfl
      have c_Vy_1 := Vy_10.out.cell 1 _ rfl
      have lt_Vy := Vy_10.out.lt
      go_wp2_with fail
      go_region_held3 (fun w' => w'.cell? ⟨w7.heap.size, 0, none⟩ = some (Value.int .i64 zr) ∧ w'.cell? ⟨w7.heap.size, 1, none⟩ = some (Value.slice Y1 r.length r.length) ∧ w'.cell? ⟨w0.heap.size + 1, 0, none⟩ = some (Value.int .i64 zr) ∧ w'.cell? ⟨w0.heap.size + 1, 1, none⟩ = some (Value.slice Ar r.length cr))
        (first | exact ⟨(((Vy_10.out.below (Below.refl _ _).drew).below b11).below b12).cell 0 _ rfl, (((Vy_10.out.below (Below.refl _ _).drew).below b11).below b12).cell 1 _ rfl, (((Vb_10.out.below (Below.refl _ _).drew).below b11).below b12).cell 0 _ rfl, (((Vb_10.out.below (Below.refl _ _).drew).below b11).below b12).cell 1 _ rfl⟩ | exact ⟨((Vy_10.out.below (Below.refl _ _).drew).below b11).cell 0 _ rfl, ((Vy_10.out.below (Below.refl _ _).drew).below b11).cell 1 _ rfl, ((Vb_10.out.below (Below.refl _ _).drew).below b11).cell 0 _ rfl, ((Vb_10.out.below (Below.refl _ _).drew).below b11).cell 1 _ rfl⟩ | go_keep)
        (first
          | (go_at_call 35; refine (Calls.mono (LinK.copy 0 w0.heap.size zr Ar cr r _ (hr.below B10.out.drew) hnr)) ?_; rintro e w11 ⟨C10, rfl, rc10, fc10, b11⟩)
          | (go_at_call 36; refine (Calls.mono (LinK.eq_same _ _ _ _ zr Y1 C10 r.length r.length r _ ((Oy_10.out.1.below (Below.refl _ _).drew).below b11) rc10 (by omega))) ?_; rintro e w12 ⟨rfl, b12⟩))
      have h11 : w10.heap.size ≤ w11.heap.size := b11.size
      have h12 : w11.heap.size ≤ w12.heap.size := b12.size
      have d12 : Below w10.heap.size w10 w12 := (((Below.refl w10.heap.size w10).drew.trans (b11.mono (show w10.heap.size ≤ w10.heap.size by omega))).trans (b12.mono (show w10.heap.size ≤ w11.heap.size by omega)))
      have hs12 := d12.size
      have B12 := Lib.hid (B10.out.trans (d12.mono B10.out.size))
      have Va_12 := Lib.hid (Va_10.out.below d12)
      have Vb_12 := Lib.hid (Vb_10.out.below d12)
      have Ox_12 := Lib.hid (Ox_10.out.below d12)
      have Vx_12 := Lib.hid (Vx_10.out.below d12)
      have Oy_12 := Lib.hid (Oy_10.out.below d12)
      have Vy_12 := Lib.hid (Vy_10.out.below d12)
      clear Va_10 Vb_10 Ox_10 Vx_10 Oy_10 Vy_10 c_Va_0 c_Va_1 lt_Va c_Vb_0 c_Vb_1 lt_Vb c_Vx_0 c_Vx_1 lt_Vx c_Vy_0 c_Vy_1 lt_Vy b11 h11 b12 h12 d12
      have c_Va_0 := Va_12.out.cell 0 _ rfl
      have c_Va_1 := Va_12.out.cell 1 _ rfl
      have lt_Va := Va_12.out.lt
      have c_Vb_0 := Vb_12.out.cell 0 _ rfl
      have c_Vb_1 := Vb_12.out.cell 1 _ rfl
      have lt_Vb := Vb_12.out.lt
      have c_Vx_0 := Vx_12.out.cell 0 _ rfl
      have c_Vx_1 := Vx_12.out.cell 1 _ rfl
      have lt_Vx := Vx_12.out.lt
      have c_Vy_0 := Vy_12.out.cell 0 _ rfl
      have c_Vy_1 := Vy_12.out.cell 1 _ rfl
      have lt_Vy := Vy_12.out.lt
      go_wp2
      go_ret
      exact ⟨rfl, B12.out⟩
    · simp only [if_neg htr] at SZ2
      have HS2 := Lib.hid SZ2
      clear SZ2 hlenr
      go_enter Try.func12, Try.ntmps12
      have l0 := ((Lvar.new (w0.alloc (Obj.cells #[Value.int .i64 zl, Value.slice Al l.length cl] 43)) #[Value.int .i64 zr, Value.slice Ar r.length cr] 43))
      go_wp2_with fail
      refine (HS.out _).mono ?_
      rintro e w1 ⟨rfl, b1⟩
      have L0 := l0.below b1
      simp only [World.size_alloc] at L0
      have k0 := L0.cell 0 _ rfl
      have k1 := L0.cell 1 _ rfl
      clear l0
      go_wp2_with fail
      refine (HS2.out _).mono ?_
      rintro e w2 ⟨rfl, b2⟩
      go_wp2
      go_ret
      exact ⟨rfl, ((((Below.refl _ _).alloc (by first | (simp; done) | (simp; omega)) _).alloc (by first | (simp; done) | (simp; omega)) _).trans (b1.mono (by simp; omega))).trans (b2.mono (by have := b1.size; simp at this; omega))⟩

  · simp only [if_neg htl] at SZ
    have HS := Lib.hid SZ
    clear SZ hlenl
    go_enter Try.func12, Try.ntmps12
    go_wp2_with fail
    refine (HS.out _).mono ?_
    rintro e w1 ⟨rfl, b1⟩
    go_wp2
    go_ret
    exact ⟨rfl, (((Below.refl _ _).alloc (by first | (simp; done) | (simp; omega)) _).alloc (by first | (simp; done) | (simp; omega)) _).trans (b1.mono (by first | (simp; done) | (simp; omega)))⟩

set_option maxRecDepth 100000 in
theorem lifted (os : Os) (started : os.Started) (H : Type) (enc : TypeId × Value → H) :
    ReturnsInHanded {} Try.checked os 12 .any (Rows.fnExactEqualLinSpec.pre6 enc Try.prog Try.f12 Rows.fnExactEqualLinRow.domain false) (Rows.fnExactEqualLinSpec.post enc Try.prog Try.f12 false true false false) := by
  refine returnsInHanded_of_change (C := Try.checked) Frame.own started (by kernel_rfl) Try.func12
    (ChangeSpec.witness6 (enc := enc) (C := Try.checked) false ⟨#[], #[.agg #[.int .i64 0, .slice none 0 0], .agg #[.int .i64 0, .slice none 0 0]], []⟩ 8 (by kernel_rfl) (by kernel_rfl) (by kernel_rfl) (by kernel_rfl)) ?_
  intro W base args ds gs before hval0 hW _ _
  have hW' := hW
  have hval : ∀ (j : Nat) t v, Try.f12.params[j]? = some t → args[j]? = some v → Value.okWide Try.prog W .any base t v := hval0
  obtain ⟨p, q, hA0, hV, rfl, hfz, hnd⟩ := hW
  have hA : DataW.TrodAll enc Try.prog W 0 (fun _ => true) true Try.f12.params.toList args.toList ds p := hA0
  rw [Try.params12] at hA hval
  obtain ⟨v0, v1, d0, d1, p0, p1, rfl, rfl, rfl, h0, h1⟩ := trodAll_two hA
  have hlt := fun x hx => hW'.lt x hx
  obtain ⟨rfl, rfl⟩ := trodVars_none hV
  obtain ⟨zl, al, cl, l, rfl, wl, hrl, hll, hsl, hcl⟩ := Frame.open_lin (W := W) Try.underlying43 (by kernel_rfl) (by kernel_rfl) rfl rfl Try.underlying3 Try.underlying24 (by kernel_rfl) (hval 0 43 v0 rfl rfl) h0 (fun x hx => hlt x (by simp [hx]))
  obtain ⟨zr, ar, cr, r, rfl, wr, hrr, hlr, hsr, hcr⟩ := Frame.open_lin (W := W) Try.underlying43 (by kernel_rfl) (by kernel_rfl) rfl rfl Try.underlying3 Try.underlying24 (by kernel_rfl) (hval 1 43 v1 rfl rfl) h1 (fun x hx => hlt x (by simp [hx]))
  refine (walk zl al cl l zr ar cr r W hrl hll hrr hlr).mono fun e W' ⟨he, hb⟩ => ?_
  subst he
  exact ⟨_, rfl, Frame.law_post (tb := 4) Frame.laidOut (by kernel_rfl) (by kernel_rfl) (by kernel_rfl) Try.underlying4 hW' rfl hb⟩

theorem proved : Rows.FnExactEqualLinSaid :=
  OpenClaim.holds_of_wide 12 Try.f12 rfl rfl rfl rfl rfl rfl rfl ⟨rfl, rfl, rfl, rfl, rfl⟩ rfl rfl rfl rfl rfl (by kernel_rfl) Try.func12 (by kernel_rfl)
    (of_decide_eq_true (by kernel_rfl)) (by unfold Func.isWrapper; first | (rw [if_pos (by decide +kernel)]; kernel_rfl) | (rw [if_neg (by decide +kernel)]; exact ⟨rfl, rfl⟩))
    (fun os started H enc _ => lifted os started H enc)
end LawEqualLin
end Go.Proofs.Ytjhjbnfdnecidaa
