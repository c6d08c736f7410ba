/- At every linear expression and every slice of strings, impl.FormatConstraint answers as its model and writes nothing into its arguments: the law FnExactFormatConstraint returns true. Its condition: the listed tables of the library hold what their text lays. -/
import Derived.Test.YtkeejkpeniinkaaDoorCards
import Derived.Test.YtkeejkpeniinkaaDoorTie
import Derived.Test.YtkeejkpeniinkaaDoorFrame
import Derived.Test.YtkeejkpeniinkaaDoorFrameLin
import Derived.Test.YtkeejkpeniinkaaDoorTextCons
import Derived.Test.YtkeejkpeniinkaaDoorStrEq
import Derived.Test.YtkeejkpeniinkaaDoorStrMore
import Derived.Test.YtkeejkpeniinkaaDoorStrSize
import Derived.Test.YtkeejkpeniinkaaDoorLinK
import Derived.Deep.RegionHeld3
import Derived.SliceStrings
import Derived.LaidMore
import Derived.LaidSub
import Derived.MakeChecks
import Derived.Deep.DeepWitnessRowRef
import Derived.SevenTiedAt
namespace Go.Proofs.YtkeejkpeniinkaaDoor
open Go.ChangeShapes Go.WideShapes Go.ChangeAt Go.RowKit
open Go.ChangeMaps (open_string shut_string)
namespace LawFormatConstraint

theorem pow {W : World} (h : laidMetH Tryd.prog Rows.fnExactFormatConstraintRow.laid W) : FmtI.Pow W := by
  have h1 := laidMetH.filter (fun x => x.1 == "internal/strconv.uint64pow10") h
  rw [MakeChecks.laidMetH_plain _ _ _ (by kernel_rfl)] at h1
  exact Lib.tabIs_of_head (P := Tryd.prog) (rest := []) (g := 0) (t := 87) (e := 71) (n := 20) (by kernel_rfl) (by kernel_rfl) Tryd.underlying87 Tryd.underlying71 (by kernel_rfl) (by kernel_rfl) h1

open RowK LinM
set_option maxHeartbeats 4000000 in
set_option maxRecDepth 100000 in
theorem walk (zl : Int) (Al : Option Addr) (cl : Nat) (l : List Int) (As : Option Addr) (cs : Nat) (s : List ByteArray) (w0 : World) (hl : Row 0 w0.heap.size w0 Al (IntK.iv l)) (hlenl : l.length ≤ 9223372036854775807) (hs : StrK.SRow w0 As s) (hlens : s.length ≤ 9223372036854775807) (hsz : ∀ x ∈ s, x.size ≤ 9223372036854775807) (hp : FmtI.Pow w0) :
    Calls Tryd.prog 4 #[.agg #[.int .i64 zl, .slice Al l.length cl], .slice As s.length cs] w0 fun e w' => e = .returned (.bool true) ∧ Below w0.heap.size w0 w' := by
  have HP := Lib.hid hp
  clear hp
  have SZ := fun W => LinK.size zl Al cl 1048576 l.length W (by omega) hlenl
  unfold IntK.leftOf at SZ
  by_cases htl : l.length ≤ 1048576
  · simp only [if_pos htl] at SZ
    have HS := Lib.hid SZ
    have hnl : l.length ≤ 1000000000 := by omega
    clear SZ hlenl
    have hsub : ∃ t : Nat, t = 1048576 - l.length := ⟨_, rfl⟩
    obtain ⟨t, hte⟩ := hsub
    have htc : ((1048576 : Nat) : Int) - (l.length : Int) = (t : Int) := by omega
    have ht1 : t ≤ 1048576 := by omega
    rw [htc] at HS
    have SZ2 := fun W (h : StrK.SRow W As s) => StrK.size As cs t s W h (by omega) hlens hsz
    unfold StrK.leftOf at SZ2
    clear hte htc
    by_cases hts : StrK.total s ≤ t
    · simp only [if_pos hts] at SZ2
      have HS2 := Lib.hid SZ2
      have hns : s.length ≤ 1000000000 := by unfold StrK.total at hts; omega
      have SP := Lib.hid (fun lo hi A B c d W (h : Row lo hi W A (IntK.iv l)) (h2 : StrK.SRow W B s) h3 => TextI.consS lo hi zl A B c d l s W h h2 hnl hns h3 hsz)
      have IM := Lib.hid (fun lo hi A B c d W (h : Row lo hi W A (IntK.iv l)) (h2 : StrK.SRow W B s) h3 => TextI.cons lo hi zl A B c d l s W h h2 hnl hns hsz h3)
      have HZ := Lib.hid hsz
      generalize TextI.C (TextI.F (TextI.okB s) s zl l) = FF at *
      clear SZ2 hlens hsz
      have B0 := Lib.hid (Below.refl w0.heap.size w0)
      go_enter Tryd.func4, Tryd.ntmps4
      go_wp2_with fail
      refine (Calls.mono (HS.out _)) ?_
      rintro e w1 ⟨rfl, b1⟩
      have hs1 : (w0.alloc (Obj.cells #[Value.int .i64 zl, Value.slice Al l.length cl] 24)).heap.size ≤ w1.heap.size := b1.size
      simp only [World.size_alloc] at hs1
      have d1 : Below w0.heap.size w0 w1 := ((Below.refl w0.heap.size w0).alloc (by first | (simp; done) | (simp; omega)) (Obj.cells #[Value.int .i64 zl, Value.slice Al l.length cl] 24)).trans (b1.mono (show w0.heap.size ≤ (w0.alloc (Obj.cells #[Value.int .i64 zl, Value.slice Al l.length cl] 24)).heap.size by first | exact Nat.le_refl _ | (simp; done) | (simp; omega)))
      have B1 := Lib.hid (B0.out.trans (d1.mono B0.out.size))
      have HP_1 := Lib.hid (HP.out.below d1)
      have Va_1 := Lib.hid ((Lvar.new w0 #[Value.int .i64 zl, Value.slice Al l.length cl] 24).below b1)
      clear HP b1 d1
      have c_Va_0 := Va_1.out.cell 0 _ rfl
      have c_Va_1 := Va_1.out.cell 1 _ rfl
      have lt_Va := Va_1.out.lt
      go_wp2_with fail
      refine (Calls.mono (HS2.out _ (hs.below B1.out))) ?_
      rintro e w2 ⟨rfl, b2⟩
      have hs2 : w1.heap.size ≤ w2.heap.size := b2.size
      have d2 : Below w1.heap.size w1 w2 := (Below.refl w1.heap.size w1).trans (b2.mono (show w1.heap.size ≤ w1.heap.size by first | exact Nat.le_refl _ | (simp; done) | (simp; omega)))
      have B2 := Lib.hid (B1.out.trans (d2.mono B1.out.size))
      have HP_2 := Lib.hid (HP_1.out.below d2)
      have Va_2 := Lib.hid (Va_1.out.below d2)
      clear HP_1 Va_1 c_Va_0 c_Va_1 lt_Va b2 d2
      have c_Va_0 := Va_2.out.cell 0 _ rfl
      have c_Va_1 := Va_2.out.cell 1 _ rfl
      have lt_Va := Va_2.out.lt
      go_wp2_with fail
      refine (Calls.mono (LinK.copy 0 w0.heap.size zl Al cl l _ (hl.below B2.out) hnl)) ?_
      rintro e w3 ⟨X0, rfl, rt, ft, b3⟩
      have hs3 : w2.heap.size ≤ w3.heap.size := b3.size
      have d3 : Below w2.heap.size w2 w3 := (Below.refl w2.heap.size w2).trans (b3.mono (show w2.heap.size ≤ w2.heap.size by first | exact Nat.le_refl _ | (simp; done) | (simp; omega)))
      have B3 := Lib.hid (B2.out.trans (d3.mono B2.out.size))
      have HP_3 := Lib.hid (HP_2.out.below d3)
      have Va_3 := Lib.hid (Va_2.out.below d3)
      clear HP_2 Va_2 c_Va_0 c_Va_1 lt_Va b3 d3
      have Rt := Lib.hid rt
      clear rt ft
      have c_Va_0 := Va_3.out.cell 0 _ rfl
      have c_Va_1 := Va_3.out.cell 1 _ rfl
      have lt_Va := Va_3.out.lt
      go_wp2_with fail
      refine (Calls.mono (StrK.copy As cs s _ (hs.below B3.out) hns)) ?_
      rintro e w4 ⟨Y0, rfl, rY0, fY0, b4, _⟩
      have hs4 : w3.heap.size ≤ w4.heap.size := b4.size
      have d4 : Below w3.heap.size w3 w4 := (Below.refl w3.heap.size w3).trans (b4.mono (show w3.heap.size ≤ w3.heap.size by first | exact Nat.le_refl _ | (simp; done) | (simp; omega)))
      have B4 := Lib.hid (B3.out.trans (d4.mono B3.out.size))
      have HP_4 := Lib.hid (HP_3.out.below d4)
      have Va_4 := Lib.hid (Va_3.out.below d4)
      have Rt_4 := Lib.hid (Rt.out.below d4)
      clear HP_3 Va_3 Rt c_Va_0 c_Va_1 lt_Va b4 d4
      have RY0 := Lib.hid rY0
      clear rY0 fY0
      have c_Va_0 := Va_4.out.cell 0 _ rfl
      have c_Va_1 := Va_4.out.cell 1 _ rfl
      have lt_Va := Va_4.out.lt
      go_wp2_with fail
      refine (Calls.mono (SP.out _ _ X0 Y0 l.length s.length _ Rt_4.out RY0.out (Nat.le_refl _))) ?_
      rintro e w5 ⟨rfl, b5⟩
      have hs5 : w4.heap.size ≤ w5.heap.size := b5.size
      have d5 : Below w4.heap.size w4 w5 := (Below.refl w4.heap.size w4).trans (b5.mono (show w4.heap.size ≤ w4.heap.size by first | exact Nat.le_refl _ | (simp; done) | (simp; omega)))
      have B5 := Lib.hid (B4.out.trans (d5.mono B4.out.size))
      have HP_5 := Lib.hid (HP_4.out.below d5)
      have Va_5 := Lib.hid (Va_4.out.below d5)
      have Rt_5 := Lib.hid (Rt_4.out.below d5)
      have RY0_5 := Lib.hid (RY0.out.below d5)
      clear HP_4 Va_4 Rt_4 RY0 c_Va_0 c_Va_1 lt_Va b5 d5
      have c_Va_0 := Va_5.out.cell 0 _ rfl
      have c_Va_1 := Va_5.out.cell 1 _ rfl
      have lt_Va := Va_5.out.lt
      go_wp2_with fail
      refine (Calls.mono (LinK.copy 0 w0.heap.size zl Al cl l _ (hl.below B5.out) hnl)) ?_
      rintro e w6 ⟨X1, rfl, rx, fx, b6⟩
      have Ox := Lib.hid (show IntK.Own (w5.heap.size) w6.heap.size w6 X1 l from ⟨rx, fx⟩)
      have hs6 : w5.heap.size ≤ w6.heap.size := b6.size
      have d6 : Below w5.heap.size w5 w6 := (Below.refl w5.heap.size w5).trans (b6.mono (show w5.heap.size ≤ w5.heap.size by first | exact Nat.le_refl _ | (simp; done) | (simp; omega)))
      have B6 := Lib.hid (B5.out.trans (d6.mono B5.out.size))
      have HP_6 := Lib.hid (HP_5.out.below d6)
      have Va_6 := Lib.hid (Va_5.out.below d6)
      have Rt_6 := Lib.hid (Rt_5.out.below d6)
      have RY0_6 := Lib.hid (RY0_5.out.below d6)
      clear HP_5 Va_5 Rt_5 RY0_5 c_Va_0 c_Va_1 lt_Va b6 d6
      have c_Va_0 := Va_6.out.cell 0 _ rfl
      have c_Va_1 := Va_6.out.cell 1 _ rfl
      have lt_Va := Va_6.out.lt
      go_wp2_with fail
      refine (Calls.mono (StrK.copy As cs s _ (hs.below (B6.out.trans (((Below.refl w6.heap.size w6).alloc (by first | (simp; done) | (simp; omega)) (Obj.cells #[Value.int .i64 zl, Value.slice X1 l.length l.length] 29)).mono B6.out.size))) hns)) ?_
      rintro e w7 ⟨Y1, rfl, rY1, fY1, b7, _⟩
      have hs7 : (w6.alloc (Obj.cells #[Value.int .i64 zl, Value.slice X1 l.length l.length] 29)).heap.size ≤ w7.heap.size := b7.size
      simp only [World.size_alloc] at hs7
      have d7 : Below w6.heap.size w6 w7 := ((Below.refl w6.heap.size w6).alloc (by first | (simp; done) | (simp; omega)) (Obj.cells #[Value.int .i64 zl, Value.slice X1 l.length l.length] 29)).trans (b7.mono (show w6.heap.size ≤ (w6.alloc (Obj.cells #[Value.int .i64 zl, Value.slice X1 l.length l.length] 29)).heap.size by first | exact Nat.le_refl _ | (simp; done) | (simp; omega)))
      have B7 := Lib.hid (B6.out.trans (d7.mono B6.out.size))
      have HP_7 := Lib.hid (HP_6.out.below d7)
      have Va_7 := Lib.hid (Va_6.out.below d7)
      have Rt_7 := Lib.hid (Rt_6.out.below d7)
      have RY0_7 := Lib.hid (RY0_6.out.below d7)
      have Ox_7 := Lib.hid (Ox.out.below d7)
      have Vx_7 := Lib.hid ((Lvar.new w6 #[Value.int .i64 zl, Value.slice X1 l.length l.length] 29).below b7)
      clear HP_6 Va_6 Rt_6 RY0_6 Ox c_Va_0 c_Va_1 lt_Va b7 d7
      have RY1 := Lib.hid rY1
      clear rY1 fY1
      have c_Va_0 := Va_7.out.cell 0 _ rfl
      have c_Va_1 := Va_7.out.cell 1 _ rfl
      have lt_Va := Va_7.out.lt
      have c_Vx_0 := Vx_7.out.cell 0 _ rfl
      have c_Vx_1 := Vx_7.out.cell 1 _ rfl
      have lt_Vx := Vx_7.out.lt
      go_wp2_with fail
      refine (Calls.mono (IM.out _ _ X1 Y1 l.length s.length _ Ox_7.out.1 RY1.out HP_7.out)) ?_
      rintro e w8 ⟨rfl, b8⟩
      have hs8 : w7.heap.size ≤ w8.heap.size := b8.size
      have d8 : Below w7.heap.size w7 w8 := (Below.refl w7.heap.size w7).trans (b8.mono (show w7.heap.size ≤ w7.heap.size by first | exact Nat.le_refl _ | (simp; done) | (simp; omega)))
      have B8 := Lib.hid (B7.out.trans (d8.mono B7.out.size))
      have HP_8 := Lib.hid (HP_7.out.below d8)
      have Va_8 := Lib.hid (Va_7.out.below d8)
      have Rt_8 := Lib.hid (Rt_7.out.below d8)
      have RY0_8 := Lib.hid (RY0_7.out.below d8)
      have Ox_8 := Lib.hid (Ox_7.out.below d8)
      have Vx_8 := Lib.hid (Vx_7.out.below d8)
      have RY1_8 := Lib.hid (RY1.out.below d8)
      clear HP_7 Va_7 Rt_7 RY0_7 Ox_7 Vx_7 RY1 c_Va_0 c_Va_1 lt_Va c_Vx_0 c_Vx_1 lt_Vx b8 d8
      have c_Va_0 := Va_8.out.cell 0 _ rfl
      have c_Va_1 := Va_8.out.cell 1 _ rfl
      have lt_Va := Va_8.out.lt
      have c_Vx_0 := Vx_8.out.cell 0 _ rfl
      have c_Vx_1 := Vx_8.out.cell 1 _ rfl
      have lt_Vx := Vx_8.out.lt
      go_wp2_with fail
      go_region_held3 (fun w' => w'.cell? ⟨w6.heap.size, 0, none⟩ = some (Value.int .i64 zl) ∧ w'.cell? ⟨w6.heap.size, 1, none⟩ = some (Value.slice X1 l.length l.length) ∧ w'.cell? ⟨w0.heap.size, 0, none⟩ = some (Value.int .i64 zl) ∧ w'.cell? ⟨w0.heap.size, 1, none⟩ = some (Value.slice Al l.length cl))
        (first | exact ⟨(((Vx_8.out.below (Below.refl _ _).drew).below b9).below b10).cell 0 _ rfl, (((Vx_8.out.below (Below.refl _ _).drew).below b9).below b10).cell 1 _ rfl, (((Va_8.out.below (Below.refl _ _).drew).below b9).below b10).cell 0 _ rfl, (((Va_8.out.below (Below.refl _ _).drew).below b9).below b10).cell 1 _ rfl⟩ | exact ⟨((Vx_8.out.below (Below.refl _ _).drew).below b9).cell 0 _ rfl, ((Vx_8.out.below (Below.refl _ _).drew).below b9).cell 1 _ rfl, ((Va_8.out.below (Below.refl _ _).drew).below b9).cell 0 _ rfl, ((Va_8.out.below (Below.refl _ _).drew).below b9).cell 1 _ rfl⟩ | go_keep)
        (first
          | (go_at_call 8; refine (Calls.mono (LinK.copy 0 w0.heap.size zl Al cl l _ (hl.below B8.out.drew) hnl)) ?_; rintro e w9 ⟨C8, rfl, rc8, fc8, b9⟩)
          | (go_at_call 11; refine (Calls.mono (LinK.eq_same _ _ _ _ zl X1 C8 l.length l.length l _ ((Ox_8.out.1.below (Below.refl _ _).drew).below b9) rc8 (by omega))) ?_; rintro e w10 ⟨rfl, b10⟩))
      have h9 : w8.heap.size ≤ w9.heap.size := b9.size
      have h10 : w9.heap.size ≤ w10.heap.size := b10.size
      have d10 : Below w8.heap.size w8 w10 := (((Below.refl w8.heap.size w8).drew.trans (b9.mono (show w8.heap.size ≤ w8.heap.size by omega))).trans (b10.mono (show w8.heap.size ≤ w9.heap.size by omega)))
      have hs10 := d10.size
      have B10 := Lib.hid (B8.out.trans (d10.mono B8.out.size))
      have HP_10 := Lib.hid (HP_8.out.below d10)
      have Va_10 := Lib.hid (Va_8.out.below d10)
      have Rt_10 := Lib.hid (Rt_8.out.below d10)
      have RY0_10 := Lib.hid (RY0_8.out.below d10)
      have Ox_10 := Lib.hid (Ox_8.out.below d10)
      have Vx_10 := Lib.hid (Vx_8.out.below d10)
      have RY1_10 := Lib.hid (RY1_8.out.below d10)
      clear HP_8 Va_8 Rt_8 RY0_8 Ox_8 Vx_8 RY1_8 c_Va_0 c_Va_1 lt_Va c_Vx_0 c_Vx_1 lt_Vx b9 h9 b10 h10 d10
      have c_Va_0 := Va_10.out.cell 0 _ rfl
      have c_Va_1 := Va_10.out.cell 1 _ rfl
      have lt_Va := Va_10.out.lt
      have c_Vx_0 := Vx_10.out.cell 0 _ rfl
      have c_Vx_1 := Vx_10.out.cell 1 _ rfl
      have lt_Vx := Vx_10.out.lt
      go_wp2_with fail
      refine (Calls.mono (StrK.copy As cs s _ (hs.below B10.out) hns)) ?_
      rintro e w11 ⟨Y2, rfl, rY2, fY2, b11, _⟩
      have hs11 : w10.heap.size ≤ w11.heap.size := b11.size
      have d11 : Below w10.heap.size w10 w11 := (Below.refl w10.heap.size w10).trans (b11.mono (show w10.heap.size ≤ w10.heap.size by first | exact Nat.le_refl _ | (simp; done) | (simp; omega)))
      have B11 := Lib.hid (B10.out.trans (d11.mono B10.out.size))
      have HP_11 := Lib.hid (HP_10.out.below d11)
      have Va_11 := Lib.hid (Va_10.out.below d11)
      have Rt_11 := Lib.hid (Rt_10.out.below d11)
      have RY0_11 := Lib.hid (RY0_10.out.below d11)
      have Ox_11 := Lib.hid (Ox_10.out.below d11)
      have Vx_11 := Lib.hid (Vx_10.out.below d11)
      have RY1_11 := Lib.hid (RY1_10.out.below d11)
      clear HP_10 Va_10 Rt_10 RY0_10 Ox_10 Vx_10 RY1_10 c_Va_0 c_Va_1 lt_Va c_Vx_0 c_Vx_1 lt_Vx b11 d11
      have RY2 := Lib.hid rY2
      clear rY2 fY2
      have c_Va_0 := Va_11.out.cell 0 _ rfl
      have c_Va_1 := Va_11.out.cell 1 _ rfl
      have lt_Va := Va_11.out.lt
      have c_Vx_0 := Vx_11.out.cell 0 _ rfl
      have c_Vx_1 := Vx_11.out.cell 1 _ rfl
      have lt_Vx := Vx_11.out.lt
      go_wp2_with fail
      refine (Calls.mono (StrK.eq_same Y1 Y2 s.length s.length s _ RY1_11.out RY2.out (by omega))) ?_
      rintro e w12 ⟨rfl, b12⟩
      have hs12 : w11.heap.size ≤ w12.heap.size := b12.size
      have d12 : Below w11.heap.size w11 w12 := (Below.refl w11.heap.size w11).trans (b12.mono (show w11.heap.size ≤ w11.heap.size by first | exact Nat.le_refl _ | (simp; done) | (simp; omega)))
      have B12 := Lib.hid (B11.out.trans (d12.mono B11.out.size))
      have HP_12 := Lib.hid (HP_11.out.below d12)
      have Va_12 := Lib.hid (Va_11.out.below d12)
      have Rt_12 := Lib.hid (Rt_11.out.below d12)
      have RY0_12 := Lib.hid (RY0_11.out.below d12)
      have Ox_12 := Lib.hid (Ox_11.out.below d12)
      have Vx_12 := Lib.hid (Vx_11.out.below d12)
      have RY1_12 := Lib.hid (RY1_11.out.below d12)
      have RY2_12 := Lib.hid (RY2.out.below d12)
      clear HP_11 Va_11 Rt_11 RY0_11 Ox_11 Vx_11 RY1_11 RY2 c_Va_0 c_Va_1 lt_Va c_Vx_0 c_Vx_1 lt_Vx b12 d12
      have c_Va_0 := Va_12.out.cell 0 _ rfl
      have c_Va_1 := Va_12.out.cell 1 _ rfl
      have lt_Va := Va_12.out.lt
      have c_Vx_0 := Vx_12.out.cell 0 _ rfl
      have c_Vx_1 := Vx_12.out.cell 1 _ rfl
      have lt_Vx := Vx_12.out.lt
      go_wp2
      go_ret
      exact ⟨rfl, B12.out⟩
    · simp only [if_neg hts] at SZ2
      have HS2 := Lib.hid SZ2
      clear SZ2 hlens hsz
      go_enter Tryd.func4, Tryd.ntmps4
      go_wp2_with fail
      refine (HS.out _).mono ?_
      rintro e w1 ⟨rfl, b1⟩
      have d1 : Below w0.heap.size w0 w1 := ((Below.refl w0.heap.size w0).alloc (Nat.le_refl _) _).trans (b1.mono (by first | (simp; done) | (simp; omega)))
      go_wp2_with fail
      refine (HS2.out _ (hs.below d1)).mono ?_
      rintro e w2 ⟨rfl, b2⟩
      have d2 := d1.trans (b2.mono d1.size)
      go_wp2
      go_ret
      exact ⟨rfl, d2⟩
  · simp only [if_neg htl] at SZ
    have HS := Lib.hid SZ
    clear SZ hlenl
    go_enter Tryd.func4, Tryd.ntmps4
    go_wp2_with fail
    refine (HS.out _).mono ?_
    rintro e w1 ⟨rfl, b1⟩
    go_wp2
    go_ret
    exact ⟨rfl, ((Below.refl _ _).alloc (by first | (simp; done) | (simp; omega)) _).trans (b1.mono (by first | (simp; done) | (simp; omega)))⟩

theorem laid_met (os : Os) : laidMetH Tryd.prog Rows.fnExactFormatConstraintRow.laid ((World.doorLaid Tryd.prog 4000 os).forCall (fun _ _ => 0) ⟨#[], #[.agg #[.int .i64 0, .slice none 0 0], .slice none 0 0], []⟩).memory :=
  laidMetH_of_parts3 (fuel := 8) (laidMet_of_run' 8 (by kernel_rfl) (by kernel_rfl)) (by kernel_rfl) (by kernel_rfl)
set_option maxRecDepth 100000 in
theorem lifted (os : Os) (started : os.Started) (H : Type) (enc : TypeId × Value → H) (F : Stop.Interp) :
    ReturnsInHanded {} Tryd.checked os 4 .any ((OpenSpec.ofChange Rows.fnExactFormatConstraintSpec).preRow enc Tryd.prog Tryd.f4 Rows.fnExactFormatConstraintRow.domain false Rows.fnExactFormatConstraintRow.laid) (((OpenSpec.ofChange Rows.fnExactFormatConstraintSpec).at F).post enc Tryd.prog Tryd.f4 false true false false) := by
  have hx : (DataW.whole enc Tryd.prog ((World.doorLaid Tryd.prog 4000 os).forCall (fun _ _ => 0) ⟨#[], #[.agg #[.int .i64 0, .slice none 0 0], .slice none 0 0], []⟩).memory Tryd.f4.params.toList Rows.fnExactFormatConstraintSpec.vars false #[Value.agg #[.int .i64 0, .slice none 0 0], Value.slice none 0 0].toList 8).isSome = true := by kernel_rfl
  obtain ⟨x, hx⟩ := Option.isSome_iff_exists.1 hx
  refine returnsInHanded_of_row (C := Tryd.checked) (s := OpenSpec.ofChange Rows.fnExactFormatConstraintSpec) Frame.own started (by kernel_rfl) Tryd.func4
    (witness_row_atRef (enc := enc) (C := Tryd.checked) false (World.doorLaid Tryd.prog 4000 os) #[.agg #[.int .i64 0, .slice none 0 0], .slice none 0 0] rfl (by kernel_rfl) (by kernel_rfl) (by kernel_rfl)
      (OpenSpec.preRow_of_cond 8 hx rfl (fun k hk => by cases hk) (by kernel_rfl) (laid_met os))) ?_
  intro W base args ds gs before hval0 hW _ _ _ hL _ _
  have hW' := hW
  obtain ⟨p, q, hA0, hV, rfl, hfz, hnd⟩ := hW
  have hval : ∀ (j : Nat) t v, Tryd.f4.params[j]? = some t → args[j]? = some v → Value.okWide Tryd.prog W .any base t v := hval0
  have hA : DataW.TrodAll enc Tryd.prog W 0 (fun _ => true) true Tryd.f4.params.toList args.toList ds p := hA0
  rw [Tryd.params4] at hA hval
  obtain ⟨v0, v1, d0, d1, p0, p1, rfl, rfl, rfl, h0, h1⟩ := trodAll_two hA
  have hlt := fun x hx => hW'.lt x hx
  obtain ⟨rfl, rfl⟩ := trodVars_none hV
  obtain ⟨zl, al, cl, l, rfl, wl, hrl, hll, hsl, hcl⟩ := Frame.open_lin (W := W) Tryd.underlying24 (by kernel_rfl) (by kernel_rfl) rfl rfl Tryd.underlying3 Tryd.underlying22 (by kernel_rfl) (hval 0 24 v0 rfl rfl) h0 (fun x hx => hlt x (by simp [hx]))
  obtain ⟨aq, nq, cq, rfl⟩ := okWide_slice Tryd.underlying25 (hval 1 25 v1 rfl rfl)
  obtain ⟨q, rfl, hrq, hlq, hsq⟩ := Frame.open_strs (W := W) (by kernel_rfl) Tryd.underlying25 Tryd.underlying9 h1 (fun x hx => hlt x (by simp [hx]))
  refine (walk zl al cl l aq cq q W hrl hll hrq hlq hsq (pow hL)).mono fun e W' ⟨he, hb⟩ => ?_
  subst he
  exact ⟨_, rfl, Frame.law_post (tb := 4) Frame.laidOut (by kernel_rfl) (by kernel_rfl) (by kernel_rfl) Tryd.underlying4 hW' rfl hb⟩

theorem said : Rows.FnExactFormatConstraintSaid :=
  OpenClaim.holds_of_cond 4 Tryd.f4 rfl rfl rfl rfl rfl rfl rfl ⟨rfl, rfl, rfl, rfl, rfl⟩ rfl rfl rfl rfl rfl (by kernel_rfl) Tryd.func4 (by kernel_rfl)
    (of_decide_eq_true (by kernel_rfl)) (by unfold Func.isWrapper; first | (rw [if_pos (by decide +kernel)]; kernel_rfl) | (rw [if_neg (by decide +kernel)]; exact ⟨rfl, rfl⟩))
    (fun os started H enc _ F => by rw [OpenClaim.pre_eq_preRow]; exact lifted os started H enc F)

theorem plain (f : FuncId) (fn : Func) (hf : Tryd.pinned.checked.prog.funcNamed "loop.example/g00515/laws.FnExactFormatConstraint" = some f) (hfn : Tryd.pinned.checked.prog.funcs[f]? = some fn) :
    false = Tryd.pinned.checked.prog.looks [] ∧ ∀ (j : Nat) t, fn.params[j]? = some t → Tryd.pinned.checked.prog.wantsStandIn t = false := by
  obtain rfl : f = 4 := Option.some.inj ((show Tryd.prog.funcNamed "loop.example/g00515/laws.FnExactFormatConstraint" = some 4 by kernel_rfl).symm.trans hf) |>.symm
  obtain rfl : fn = Tryd.f4 := (Option.some.inj (Tryd.func4.symm.trans hfn)).symm
  refine ⟨by kernel_rfl, fun j t ht => ?_⟩
  rw [Tryd.params4] at ht
  have hm : t ∈ [24, 25] := by simpa using Array.mem_of_getElem? ht
  have hall : ([24, 25].all fun u => !Tryd.prog.wantsStandIn u) = true := by kernel_rfl
  exact (show Tryd.prog.wantsStandIn t = false by simpa using List.all_eq_true.1 hall t hm)

theorem card : Rows.FnExactFormatConstraintCardSaid :=
  Claim7.holds_tied_plain_at .later [] _ _ _ _ said (fun _ h => by cases h) (by kernel_rfl) (fun _ h => by cases h) fnExactFormatConstraint_row_tie rfl ⟨rfl, rfl⟩ (by kernel_rfl) rfl plain (by kernel_rfl)
end LawFormatConstraint
end Go.Proofs.YtkeejkpeniinkaaDoor
