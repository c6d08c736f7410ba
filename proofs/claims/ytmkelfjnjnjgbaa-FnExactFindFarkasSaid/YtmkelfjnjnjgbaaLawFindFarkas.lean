import Derived.Test.YtmkelfjnjnjgbaaRows
import Derived.Test.YtmkelfjnjnjgbaaFrame
import Derived.Test.YtmkelfjnjnjgbaaFrameSys
import Derived.Test.YtmkelfjnjnjgbaaSysOwn
import Derived.Deep.RegionHeld3
import Derived.Test.YtmkelfjnjnjgbaaFarK
import Derived.Test.YtmkelfjnjnjgbaaLinK
import Derived.Test.YtmkelfjnjnjgbaaElimEntM
import Derived.Test.YtmkelfjnjnjgbaaElimGot
import Derived.Test.YtmkelfjnjnjgbaaElimFind
import Derived.Test.YtmkelfjnjnjgbaaFrameLin
import Derived.Test.YtmkelfjnjnjgbaaLinImpl2
import Derived.Deep.DeepCutAuto
import Derived.SliceStrings
/- At every system and every linear expression, impl.FindFarkas answers as its model, writes nothing into its arguments and answers in new memory: the law FnExactFindFarkas returns true. There is no condition. -/
namespace Go.Proofs.Ytmkelfjnjnjgbaa
open Go.ChangeShapes Go.WideShapes Go.ChangeAt Go.RowKit
open Go.ChangeMaps (open_string shut_string)
namespace LawFindFarkas
end LawFindFarkas

namespace SysK
open RowK Mem
theorem mark1 (lo hi : Nat) (n : Int) (A : Option Addr) (c : Nat) (xs : List (Int × List Int)) (w : World) (hA : Own lo hi w A xs.length c xs) (hl : linsSize xs ≤ 1000000000) :
    Calls Try.prog 30 #[.agg #[.int .i64 n, .slice A xs.length c], .int .i64 1] w fun e w' => e = .returned (.int .i64 (1 + (linsSize xs : Int))) ∧ Own lo hi w' A xs.length c (marksL 1 xs) ∧ Mod lo hi w w' :=
  mark lo hi n A c 1 xs w hA hl (by omega)
end SysK
namespace LawFindFarkas

theorem isLin : Frame.IsLin Try.prog 48 3 27 :=
  ⟨⟨_, _, Try.underlying48, rfl, rfl, rfl, rfl⟩, Try.underlying3, Try.underlying27, by kernel_rfl, by kernel_rfl, by kernel_rfl⟩

open RowK
set_option maxHeartbeats 4000000 in
set_option maxRecDepth 100000 in
theorem walk (ns : Int) (As : Option Addr) (cs : Nat) (s : List (Int × List Int)) (zl : Int) (Al : Option Addr) (cl : Nat) (l : List Int) (w0 : World) (hs : SysK.Arg w0 As s.length cs s) (hlens : s.length ≤ 9223372036854775807) (hwfs : ∀ x ∈ s, Frame.WfLin x) (hl : Row 0 w0.heap.size w0 Al (IntK.iv l)) (hlenl : l.length ≤ 9223372036854775807) :
    Calls Try.prog 5 #[.agg #[.int .i64 ns, .slice As s.length cs], .agg #[.int .i64 zl, .slice Al l.length cl]] w0 fun e w' => e = .returned (.bool true) ∧ Below w0.heap.size w0 w' := by
  have SZ := fun W (h : SysK.Arg W As s.length cs s) => SysK.size ns As cs 1048576 s W h (by omega) hlens (fun x hx => (hwfs x hx).2.1)
  unfold IntK.leftOf at SZ
  by_cases hts : Mem.linsSize s ≤ 1048576
  · simp only [if_pos hts] at SZ
    have HS := Lib.hid SZ
    have hns : Mem.linsSize s ≤ 1000000000 := by omega
    clear SZ hlens hwfs
    have hsub : ∃ t : Nat, t = 1048576 - Mem.linsSize s := ⟨_, rfl⟩
    obtain ⟨t, hte⟩ := hsub
    have htc : ((1048576 : Nat) : Int) - (Mem.linsSize s : Int) = (t : Int) := by omega
    have ht1 : t ≤ 1048576 := by omega
    rw [htc] at HS
    have SZ2 := fun W => LinK.size zl Al cl t l.length W (by omega) hlenl
    unfold IntK.leftOf at SZ2
    by_cases htl : l.length ≤ t
    · simp only [if_pos htl] at SZ2
      have HS2 := Lib.hid SZ2
      have hnl : l.length ≤ 1000000000 := by omega
      have SP := fun A c Al cl lo hi W (h : SysK.Arg W A s.length c s) (h' : Row lo hi W Al (IntK.iv l)) => ElimS.find lo hi ns A Al c cl s zl l W h hns h' hnl
      have IM := fun A c Al cl lo hi W (h : SysK.Arg W A s.length c s) (h' : Row lo hi W Al (IntK.iv l)) => ElimI.findFarkas lo hi ns A Al c cl s zl l W h hns h' hnl
      have hT := ElimM.find_small ns s (zl, l)
      unfold LinI.GaveO at SP IM
      generalize (ElimM.findF ns s (zl, l)).getD (0, []) = T at *
      generalize (ElimM.findF ns s (zl, l)).isSome = q at *
      have SP := Lib.hid SP
      have IM := Lib.hid IM
      clear SZ2 hlenl hte htc
      have B0 := Lib.hid (Below.refl w0.heap.size w0)
      go_enter Try.func5, Try.ntmps5
      go_wp2_with fail
      refine (Calls.mono (HS.out _ (hs.below (B0.out.trans ((((Below.refl w0.heap.size w0).alloc (by first | (simp; done) | (simp; omega)) (Obj.cells #[Value.int .i64 ns, Value.slice As s.length cs] 47)).alloc (by first | (simp; done) | (simp; omega)) (Obj.cells #[Value.int .i64 zl, Value.slice Al l.length cl] 48)).mono B0.out.size))))) ?_
      rintro e w1 ⟨rfl, b1⟩
      have hs1 : ((w0.alloc (Obj.cells #[Value.int .i64 ns, Value.slice As s.length cs] 47)).alloc (Obj.cells #[Value.int .i64 zl, Value.slice Al l.length cl] 48)).heap.size ≤ w1.heap.size := b1.size
      simp only [World.size_alloc] at hs1
      have d1 : Below w0.heap.size w0 w1 := (((Below.refl w0.heap.size w0).alloc (by first | (simp; done) | (simp; omega)) (Obj.cells #[Value.int .i64 ns, Value.slice As s.length cs] 47)).alloc (by first | (simp; done) | (simp; omega)) (Obj.cells #[Value.int .i64 zl, Value.slice Al l.length cl] 48)).trans (b1.mono (show w0.heap.size ≤ ((w0.alloc (Obj.cells #[Value.int .i64 ns, Value.slice As s.length cs] 47)).alloc (Obj.cells #[Value.int .i64 zl, Value.slice Al l.length cl] 48)).heap.size by first | exact Nat.le_refl _ | (simp; done) | (simp; omega)))
      have B1 := Lib.hid (B0.out.trans (d1.mono B0.out.size))
      have Va_1 := Lib.hid (((Lvar.new w0 #[Value.int .i64 ns, Value.slice As s.length cs] 47).alloc (Obj.cells #[Value.int .i64 zl, Value.slice Al l.length cl] 48)).below b1)
      have Vb_1 := Lib.hid ((Lvar.new (w0.alloc (Obj.cells #[Value.int .i64 ns, Value.slice As s.length cs] 47)) #[Value.int .i64 zl, Value.slice Al l.length cl] 48).below b1)
      simp only [World.size_alloc] at Vb_1
      clear b1 d1
      have c_Va_0 := Va_1.out.cell 0 _ rfl
      have c_Va_1 := Va_1.out.cell 1 _ rfl
      have lt_Va := Va_1.out.lt
      have c_Vb_0 := Vb_1.out.cell 0 _ rfl
      have c_Vb_1 := Vb_1.out.cell 1 _ rfl
      have lt_Vb := Vb_1.out.lt
      go_wp2_with fail
      refine (Calls.mono (HS2.out _)) ?_
      rintro e w2 ⟨rfl, b2⟩
      have hs2 : w1.heap.size ≤ w2.heap.size := b2.size
      have d2 : Below w1.heap.size w1 w2 := (Below.refl w1.heap.size w1).trans (b2.mono (show w1.heap.size ≤ w1.heap.size by first | exact Nat.le_refl _ | (simp; done) | (simp; omega)))
      have B2 := Lib.hid (B1.out.trans (d2.mono B1.out.size))
      have Va_2 := Lib.hid (Va_1.out.below d2)
      have Vb_2 := Lib.hid (Vb_1.out.below d2)
      clear Va_1 Vb_1 c_Va_0 c_Va_1 lt_Va c_Vb_0 c_Vb_1 lt_Vb b2 d2
      have c_Va_0 := Va_2.out.cell 0 _ rfl
      have c_Va_1 := Va_2.out.cell 1 _ rfl
      have lt_Va := Va_2.out.lt
      have c_Vb_0 := Vb_2.out.cell 0 _ rfl
      have c_Vb_1 := Vb_2.out.cell 1 _ rfl
      have lt_Vb := Vb_2.out.lt
      go_upto_region 8 with fail
      go_cut [6, 7] (fun s8 s9 wx => FarK.AfterO w2 T q s8 s9 wx)
      case first =>
        have KS := Lib.hid (fun W (h : Below w2.heap.size w2 W) => (show Below w2.heap.size w2 W ∧ W.cell? ⟨w0.heap.size, 0, none⟩ = some (.int .i64 ns) ∧ W.cell? ⟨w0.heap.size, 1, none⟩ = some (.slice As s.length cs) ∧ W.cell? ⟨w0.heap.size + 1, 0, none⟩ = some (.int .i64 zl) ∧ W.cell? ⟨w0.heap.size + 1, 1, none⟩ = some (.slice Al l.length cl) from ⟨h, (Va_2.out.below h).cell 0 _ rfl, (Va_2.out.below h).cell 1 _ rfl, (Vb_2.out.below h).cell 0 _ rfl, (Vb_2.out.below h).cell 1 _ rfl⟩))
        go_region_held3 (fun w' => Below w2.heap.size w2 w' ∧ w'.cell? ⟨w0.heap.size, 0, none⟩ = some (.int .i64 ns) ∧ w'.cell? ⟨w0.heap.size, 1, none⟩ = some (.slice As s.length cs) ∧ w'.cell? ⟨w0.heap.size + 1, 0, none⟩ = some (.int .i64 zl) ∧ w'.cell? ⟨w0.heap.size + 1, 1, none⟩ = some (.slice Al l.length cl))
          (first | exact KS.out _ hd5 | exact KS.out _ hd4 | exact KS.out _ hd3 | exact KS.out _ (Below.refl _ _).drew | exact KS.out _ (hd5.alloc hd5.size _) | exact KS.out _ (hd4.alloc hd4.size _) | exact KS.out _ (hd3.alloc hd3.size _) | exact KS.out _ ((Below.refl _ _).alloc (Nat.le_refl _) _).drew | exact KS.out _ ((hd5.setCell (by first | (simp; done) | (exact hd4.size) | (exact hd3.size)) _).setCell (by first | (simp; done) | (exact hd4.size) | (exact hd3.size)) _))
          (first
            | (go_at_call_of 25 (Value.agg #[.int .i64 ns, .slice As s.length cs]); refine (Calls.mono (SysK.copy ns As cs s _ (hs.below (by first | exact B2.out.drew | exact ((B2.out.alloc B2.out.size _).drew))) hns)) ?_; rintro e u3 ⟨C1, rfl, oc1, b3⟩; (have hb3 : Below w0.heap.size w0 u3 := by first | exact B2.out.drew.trans (b3.mono B2.out.drew.size) | exact ((B2.out.alloc B2.out.size _).drew).trans (b3.mono ((B2.out.alloc B2.out.size _).drew).size)); (have hd3 : Below w2.heap.size w2 u3 := by first | exact ((Below.refl w2.heap.size w2).drew).trans (b3.mono ((Below.refl w2.heap.size w2).drew).size) | exact (((Below.refl w2.heap.size w2).alloc (Nat.le_refl _) _).drew).trans (b3.mono (((Below.refl w2.heap.size w2).alloc (Nat.le_refl _) _).drew).size)); (try (have v3 : Lvar u3 w2.heap.size #[Value.int .i64 0, Value.slice none 0 0] := ((Lvar.new w2 _ _).below (Below.refl _ _).drew).below b3)))
            | (go_at_call_of 26 (Value.agg #[.int .i64 zl, .slice Al l.length cl]); refine (Calls.mono (LinK.copy 0 w0.heap.size zl Al cl l _ (hl.below (by first | exact hb3 | exact hb3.alloc hb3.size _)) hnl)) ?_; rintro e u4 ⟨C2, rfl, rc2, fc2, b4⟩; (have hs4 : Below u3.heap.size u3 u4 := by first | exact b4 | exact ((Below.refl _ _).alloc (Nat.le_refl _) _).trans (b4.mono (by simp))); (have hb4 := hb3.trans (hs4.mono hb3.size)); (have hd4 := hd3.trans (hs4.mono hd3.size)); (try (have v4 := v3.below hs4)); (try (have v4 : Lvar u4 u3.heap.size #[Value.int .i64 0, Value.slice none 0 0] := (Lvar.new u3 _ _).below b4)))
            | (go_at_call 11; refine (Calls.mono (SP.out C1 s.length C2 l.length _ _ _ ((oc1.below hs4).below (by first | exact Below.refl _ _ | exact (Below.refl _ _).alloc (Nat.le_refl _) _)).arg (rc2.below (by first | exact Below.refl _ _ | exact (Below.refl _ _).alloc (Nat.le_refl _) _)))) ?_; rintro e u5 ⟨Aw, cw, rfl, rw5, fw5, b5⟩; (have hs5 : Below u4.heap.size u4 u5 := by first | exact b5 | exact ((Below.refl _ _).alloc (Nat.le_refl _) _).trans (b5.mono (by simp))); (have hb5 := hb4.trans (hs5.mono hb4.size)); (have hd5 := hd4.trans (hs5.mono hd4.size)); (try (have v5 := v4.below hs5)); (try (have v5 : Lvar u5 u4.heap.size #[Value.int .i64 0, Value.slice none 0 0] := (Lvar.new u4 _ _).below b5)); (try (have z0 := v5.cell 0 _ rfl)); (try (have z1 := v5.cell 1 _ rfl)); (try (have y0 := v5.frozen 0)); (try (have y1 := v5.frozen 1))))
        all_goals (go_wp2_with fail)
        all_goals go_meet
        all_goals first | exact FarK.afterO_new hd5 rw5 fw5 (by first | exact hd4.size | (have := hd4.size; simp; omega)) | exact FarK.afterO_old hd5 v5 rw5 fw5 (by first | exact hd4.size | exact hd3.size | exact Nat.le_refl _) (by first | exact v4.lt | (simp; done) | (simp; omega))
      case rest =>
        obtain ⟨w3, rfl⟩ : ∃ w3 : World, w3 = wc := ⟨_, rfl⟩
        obtain ⟨bw, W, cw, rfl, rfl, hbw, Vw_, Ow_, d3⟩ := hcut
        have hb2w := Vw_.lt
        have Vw_3 := Lib.hid Vw_
        have Ow_3 := Lib.hid Ow_
        clear Vw_ Ow_
        have hs3 := d3.size
        have B3 := Lib.hid (B2.out.trans (d3.mono B2.out.size))
        have Va_3 := Lib.hid (Va_2.out.below d3)
        have Vb_3 := Lib.hid (Vb_2.out.below d3)
        clear Va_2 Vb_2 c_Va_0 c_Va_1 lt_Va c_Vb_0 c_Vb_1 lt_Vb d3
        have c_Va_0 := Va_3.out.cell 0 _ rfl
        have c_Va_1 := Va_3.out.cell 1 _ rfl
        have lt_Va := Va_3.out.lt
        have c_Vb_0 := Vb_3.out.cell 0 _ rfl
        have c_Vb_1 := Vb_3.out.cell 1 _ rfl
        have lt_Vb := Vb_3.out.lt
        have c_Vw_0 := Vw_3.out.cell 0 _ rfl
        have c_Vw_1 := Vw_3.out.cell 1 _ rfl
        have lt_Vw := Vw_3.out.lt
        go_wp2_with fail
        refine (Calls.mono (SysK.copy ns As cs s _ (hs.below B3.out) hns)) ?_
        rintro e w4 ⟨X1, rfl, ox, b4⟩
        have Ox := Lib.hid (show SysK.Own (w3.heap.size) w4.heap.size w4 X1 s.length s.length s from ox)
        have hs4 : w3.heap.size ≤ w4.heap.size := b4.size
        have d4 : Below w3.heap.size w3 w4 := (Below.refl w3.heap.size w3).trans (b4.mono (show w3.heap.size ≤ w3.heap.size by first | exact Nat.le_refl _ | (simp; done) | (simp; omega)))
        have B4 := Lib.hid (B3.out.trans (d4.mono B3.out.size))
        have Va_4 := Lib.hid (Va_3.out.below d4)
        have Vb_4 := Lib.hid (Vb_3.out.below d4)
        have Vw_4 := Lib.hid (Vw_3.out.below d4)
        have Ow_4 := Lib.hid (Ow_3.out.below d4)
        clear Va_3 Vb_3 Vw_3 Ow_3 c_Va_0 c_Va_1 lt_Va c_Vb_0 c_Vb_1 lt_Vb c_Vw_0 c_Vw_1 lt_Vw b4 d4
        clear ox
        have c_Va_0 := Va_4.out.cell 0 _ rfl
        have c_Va_1 := Va_4.out.cell 1 _ rfl
        have lt_Va := Va_4.out.lt
        have c_Vb_0 := Vb_4.out.cell 0 _ rfl
        have c_Vb_1 := Vb_4.out.cell 1 _ rfl
        have lt_Vb := Vb_4.out.lt
        have c_Vw_0 := Vw_4.out.cell 0 _ rfl
        have c_Vw_1 := Vw_4.out.cell 1 _ rfl
        have lt_Vw := Vw_4.out.lt
        go_wp2_with fail
        refine (Calls.mono (LinK.copy 0 w0.heap.size zl Al cl l _ (hl.below (B4.out.trans (((Below.refl w4.heap.size w4).alloc (by first | (simp; done) | (simp; omega)) (Obj.cells #[Value.int .i64 ns, Value.slice X1 s.length s.length] 26)).mono B4.out.size))) hnl)) ?_
        rintro e w5 ⟨Y1, rfl, ry, fy, b5⟩
        simp only [World.size_alloc] at ry
        have Oy := Lib.hid (show IntK.Own (w4.heap.size + 1) w5.heap.size w5 Y1 l from ⟨ry, fy⟩)
        have hs5 : (w4.alloc (Obj.cells #[Value.int .i64 ns, Value.slice X1 s.length s.length] 26)).heap.size ≤ w5.heap.size := b5.size
        simp only [World.size_alloc] at hs5
        have d5 : Below w4.heap.size w4 w5 := ((Below.refl w4.heap.size w4).alloc (by first | (simp; done) | (simp; omega)) (Obj.cells #[Value.int .i64 ns, Value.slice X1 s.length s.length] 26)).trans (b5.mono (show w4.heap.size ≤ (w4.alloc (Obj.cells #[Value.int .i64 ns, Value.slice X1 s.length s.length] 26)).heap.size by first | exact Nat.le_refl _ | (simp; done) | (simp; omega)))
        have B5 := Lib.hid (B4.out.trans (d5.mono B4.out.size))
        have Va_5 := Lib.hid (Va_4.out.below d5)
        have Vb_5 := Lib.hid (Vb_4.out.below d5)
        have Vw_5 := Lib.hid (Vw_4.out.below d5)
        have Ow_5 := Lib.hid (Ow_4.out.below d5)
        have Ox_5 := Lib.hid (Ox.out.below d5)
        have Vx_5 := Lib.hid ((Lvar.new w4 #[Value.int .i64 ns, Value.slice X1 s.length s.length] 26).below b5)
        clear Va_4 Vb_4 Vw_4 Ow_4 Ox c_Va_0 c_Va_1 lt_Va c_Vb_0 c_Vb_1 lt_Vb c_Vw_0 c_Vw_1 lt_Vw b5 d5
        have c_Va_0 := Va_5.out.cell 0 _ rfl
        have c_Va_1 := Va_5.out.cell 1 _ rfl
        have lt_Va := Va_5.out.lt
        have c_Vb_0 := Vb_5.out.cell 0 _ rfl
        have c_Vb_1 := Vb_5.out.cell 1 _ rfl
        have lt_Vb := Vb_5.out.lt
        have c_Vw_0 := Vw_5.out.cell 0 _ rfl
        have c_Vw_1 := Vw_5.out.cell 1 _ rfl
        have lt_Vw := Vw_5.out.lt
        have c_Vx_0 := Vx_5.out.cell 0 _ rfl
        have c_Vx_1 := Vx_5.out.cell 1 _ rfl
        have lt_Vx := Vx_5.out.lt
        go_wp2_with fail
        refine (Calls.mono (IM.out X1 s.length Y1 l.length _ _ _ (Ox_5.out.below ((Below.refl w5.heap.size w5).alloc (by first | (simp; done) | (simp; omega)) (Obj.cells #[Value.int .i64 zl, Value.slice Y1 l.length l.length] 29))).arg (Oy.out.below ((Below.refl w5.heap.size w5).alloc (by first | (simp; done) | (simp; omega)) (Obj.cells #[Value.int .i64 zl, Value.slice Y1 l.length l.length] 29))).1)) ?_
        rintro e w6 ⟨G, cg, rfl, rg, fg, b6⟩
        simp only [World.size_alloc] at rg
        have Og := Lib.hid (show IntK.Own (w5.heap.size + 1) w6.heap.size w6 G T.2 from ⟨rg, fg⟩)
        have hs6 : (w5.alloc (Obj.cells #[Value.int .i64 zl, Value.slice Y1 l.length l.length] 29)).heap.size ≤ w6.heap.size := b6.size
        simp only [World.size_alloc] at hs6
        have d6 : Below w5.heap.size w5 w6 := ((Below.refl w5.heap.size w5).alloc (by first | (simp; done) | (simp; omega)) (Obj.cells #[Value.int .i64 zl, Value.slice Y1 l.length l.length] 29)).trans (b6.mono (show w5.heap.size ≤ (w5.alloc (Obj.cells #[Value.int .i64 zl, Value.slice Y1 l.length l.length] 29)).heap.size by first | exact Nat.le_refl _ | (simp; done) | (simp; omega)))
        have B6 := Lib.hid (B5.out.trans (d6.mono B5.out.size))
        have Va_6 := Lib.hid (Va_5.out.below d6)
        have Vb_6 := Lib.hid (Vb_5.out.below d6)
        have Vw_6 := Lib.hid (Vw_5.out.below d6)
        have Ow_6 := Lib.hid (Ow_5.out.below d6)
        have Ox_6 := Lib.hid (Ox_5.out.below d6)
        have Vx_6 := Lib.hid (Vx_5.out.below d6)
        have Oy_6 := Lib.hid (Oy.out.below d6)
        have Vy_6 := Lib.hid ((Lvar.new w5 #[Value.int .i64 zl, Value.slice Y1 l.length l.length] 29).below b6)
        clear Va_5 Vb_5 Vw_5 Ow_5 Ox_5 Vx_5 Oy c_Va_0 c_Va_1 lt_Va c_Vb_0 c_Vb_1 lt_Vb c_Vw_0 c_Vw_1 lt_Vw c_Vx_0 c_Vx_1 lt_Vx b6 d6
        have c_Va_0 := Va_6.out.cell 0 _ rfl
        have c_Va_1 := Va_6.out.cell 1 _ rfl
        have lt_Va := Va_6.out.lt
        have c_Vb_0 := Vb_6.out.cell 0 _ rfl
        have c_Vb_1 := Vb_6.out.cell 1 _ rfl
        have lt_Vb := Vb_6.out.lt
        have c_Vw_0 := Vw_6.out.cell 0 _ rfl
        have c_Vw_1 := Vw_6.out.cell 1 _ rfl
        have lt_Vw := Vw_6.out.lt
        have c_Vx_0 := Vx_6.out.cell 0 _ rfl
        have c_Vx_1 := Vx_6.out.cell 1 _ rfl
        have lt_Vx := Vx_6.out.lt
        have c_Vy_0 := Vy_6.out.cell 0 _ rfl
        have c_Vy_1 := Vy_6.out.cell 1 _ rfl
        have lt_Vy := Vy_6.out.lt
        go_wp2_with fail
        refine (Calls.mono (FarK.eq_same _ _ _ _ T.1 G W cg cw T.2 _ (Og.out.below ((Below.refl w6.heap.size w6).alloc (by first | (simp; done) | (simp; omega)) (Obj.cells #[Value.int .i64 T.1, Value.slice G T.2.length cg] 33))).1 (Ow_6.out.below ((Below.refl w6.heap.size w6).alloc (by first | (simp; done) | (simp; omega)) (Obj.cells #[Value.int .i64 T.1, Value.slice G T.2.length cg] 33))).1 (by omega))) ?_
        rintro e w7 ⟨rfl, b7⟩
        have hs7 : (w6.alloc (Obj.cells #[Value.int .i64 T.1, Value.slice G T.2.length cg] 33)).heap.size ≤ w7.heap.size := b7.size
        simp only [World.size_alloc] at hs7
        have d7 : Below w6.heap.size w6 w7 := ((Below.refl w6.heap.size w6).alloc (by first | (simp; done) | (simp; omega)) (Obj.cells #[Value.int .i64 T.1, Value.slice G T.2.length cg] 33)).trans (b7.mono (show w6.heap.size ≤ (w6.alloc (Obj.cells #[Value.int .i64 T.1, Value.slice G T.2.length cg] 33)).heap.size by first | exact Nat.le_refl _ | (simp; done) | (simp; omega)))
        have B7 := Lib.hid (B6.out.trans (d7.mono B6.out.size))
        have Va_7 := Lib.hid (Va_6.out.below d7)
        have Vb_7 := Lib.hid (Vb_6.out.below d7)
        have Vw_7 := Lib.hid (Vw_6.out.below d7)
        have Ow_7 := Lib.hid (Ow_6.out.below d7)
        have Ox_7 := Lib.hid (Ox_6.out.below d7)
        have Vx_7 := Lib.hid (Vx_6.out.below d7)
        have Oy_7 := Lib.hid (Oy_6.out.below d7)
        have Vy_7 := Lib.hid (Vy_6.out.below d7)
        have Og_7 := Lib.hid (Og.out.below d7)
        have Vg_7 := Lib.hid ((Lvar.new w6 #[Value.int .i64 T.1, Value.slice G T.2.length cg] 33).below b7)
        clear Va_6 Vb_6 Vw_6 Ow_6 Ox_6 Vx_6 Oy_6 Vy_6 Og c_Va_0 c_Va_1 lt_Va c_Vb_0 c_Vb_1 lt_Vb c_Vw_0 c_Vw_1 lt_Vw c_Vx_0 c_Vx_1 lt_Vx c_Vy_0 c_Vy_1 lt_Vy b7 d7
        have c_Va_0 := Va_7.out.cell 0 _ rfl
        have c_Va_1 := Va_7.out.cell 1 _ rfl
        have lt_Va := Va_7.out.lt
        have c_Vb_0 := Vb_7.out.cell 0 _ rfl
        have c_Vb_1 := Vb_7.out.cell 1 _ rfl
        have lt_Vb := Vb_7.out.lt
        have c_Vw_0 := Vw_7.out.cell 0 _ rfl
        have c_Vw_1 := Vw_7.out.cell 1 _ rfl
        have lt_Vw := Vw_7.out.lt
        have c_Vx_0 := Vx_7.out.cell 0 _ rfl
        have c_Vx_1 := Vx_7.out.cell 1 _ rfl
        have lt_Vx := Vx_7.out.lt
        have c_Vy_0 := Vy_7.out.cell 0 _ rfl
        have c_Vy_1 := Vy_7.out.cell 1 _ rfl
        have lt_Vy := Vy_7.out.lt
        have c_Vg_0 := Vg_7.out.cell 0 _ rfl
        have c_Vg_1 := Vg_7.out.cell 1 _ rfl
        have lt_Vg := Vg_7.out.lt
        go_wp2_with fail
        go_region_held3 (fun w' => w'.cell? ⟨w4.heap.size, 0, none⟩ = some (Value.int .i64 ns) ∧ w'.cell? ⟨w4.heap.size, 1, none⟩ = some (Value.slice X1 s.length s.length) ∧ w'.cell? ⟨w0.heap.size, 0, none⟩ = some (Value.int .i64 ns) ∧ w'.cell? ⟨w0.heap.size, 1, none⟩ = some (Value.slice As s.length cs))
          (first | exact ⟨(((Vx_7.out.below (Below.refl _ _).drew).below b8).below b9).cell 0 _ rfl, (((Vx_7.out.below (Below.refl _ _).drew).below b8).below b9).cell 1 _ rfl, (((Va_7.out.below (Below.refl _ _).drew).below b8).below b9).cell 0 _ rfl, (((Va_7.out.below (Below.refl _ _).drew).below b8).below b9).cell 1 _ rfl⟩ | exact ⟨((Vx_7.out.below (Below.refl _ _).drew).below b8).cell 0 _ rfl, ((Vx_7.out.below (Below.refl _ _).drew).below b8).cell 1 _ rfl, ((Va_7.out.below (Below.refl _ _).drew).below b8).cell 0 _ rfl, ((Va_7.out.below (Below.refl _ _).drew).below b8).cell 1 _ rfl⟩ | go_keep)
          (first
            | (go_at_call 25; refine (Calls.mono (SysK.copy ns As cs s _ (hs.below B7.out.drew) hns)) ?_; rintro e w8 ⟨C7, rfl, oc7, b8⟩)
            | (go_at_call 28; refine (Calls.mono (SysK.eq_same ns X1 C7 s.length s.length s _ ((Ox_7.out.below (Below.refl _ _).drew).below b8).arg oc7.arg hns)) ?_; rintro e w9 ⟨rfl, b9⟩))
        have h8 : w7.heap.size ≤ w8.heap.size := b8.size
        have h9 : w8.heap.size ≤ w9.heap.size := b9.size
        have d9 : Below w7.heap.size w7 w9 := (((Below.refl w7.heap.size w7).drew.trans (b8.mono (show w7.heap.size ≤ w7.heap.size by omega))).trans (b9.mono (show w7.heap.size ≤ w8.heap.size by omega)))
        have hs9 := d9.size
        have B9 := Lib.hid (B7.out.trans (d9.mono B7.out.size))
        have Va_9 := Lib.hid (Va_7.out.below d9)
        have Vb_9 := Lib.hid (Vb_7.out.below d9)
        have Vw_9 := Lib.hid (Vw_7.out.below d9)
        have Ow_9 := Lib.hid (Ow_7.out.below d9)
        have Ox_9 := Lib.hid (Ox_7.out.below d9)
        have Vx_9 := Lib.hid (Vx_7.out.below d9)
        have Oy_9 := Lib.hid (Oy_7.out.below d9)
        have Vy_9 := Lib.hid (Vy_7.out.below d9)
        have Og_9 := Lib.hid (Og_7.out.below d9)
        have Vg_9 := Lib.hid (Vg_7.out.below d9)
        clear Va_7 Vb_7 Vw_7 Ow_7 Ox_7 Vx_7 Oy_7 Vy_7 Og_7 Vg_7 c_Va_0 c_Va_1 lt_Va c_Vb_0 c_Vb_1 lt_Vb c_Vw_0 c_Vw_1 lt_Vw c_Vx_0 c_Vx_1 lt_Vx c_Vy_0 c_Vy_1 lt_Vy c_Vg_0 c_Vg_1 lt_Vg b8 h8 b9 h9 d9
        clear oc7
        have c_Va_0 := Va_9.out.cell 0 _ rfl
        have c_Va_1 := Va_9.out.cell 1 _ rfl
        have lt_Va := Va_9.out.lt
        have c_Vb_0 := Vb_9.out.cell 0 _ rfl
        have c_Vb_1 := Vb_9.out.cell 1 _ rfl
        have lt_Vb := Vb_9.out.lt
        have c_Vw_0 := Vw_9.out.cell 0 _ rfl
        have c_Vw_1 := Vw_9.out.cell 1 _ rfl
        have lt_Vw := Vw_9.out.lt
        have c_Vx_0 := Vx_9.out.cell 0 _ rfl
        have c_Vx_1 := Vx_9.out.cell 1 _ rfl
        have lt_Vx := Vx_9.out.lt
        have c_Vy_0 := Vy_9.out.cell 0 _ rfl
        have c_Vy_1 := Vy_9.out.cell 1 _ rfl
        have lt_Vy := Vy_9.out.lt
        have c_Vg_0 := Vg_9.out.cell 0 _ rfl
        have c_Vg_1 := Vg_9.out.cell 1 _ rfl
        have lt_Vg := Vg_9.out.lt
        go_wp2_with fail
        go_region_held3 (fun w' => w'.cell? ⟨w5.heap.size, 0, none⟩ = some (Value.int .i64 zl) ∧ w'.cell? ⟨w5.heap.size, 1, none⟩ = some (Value.slice Y1 l.length l.length) ∧ w'.cell? ⟨w0.heap.size + 1, 0, none⟩ = some (Value.int .i64 zl) ∧ w'.cell? ⟨w0.heap.size + 1, 1, none⟩ = some (Value.slice Al l.length cl))
          (first | exact ⟨(((Vy_9.out.below (Below.refl _ _).drew).below b10).below b11).cell 0 _ rfl, (((Vy_9.out.below (Below.refl _ _).drew).below b10).below b11).cell 1 _ rfl, (((Vb_9.out.below (Below.refl _ _).drew).below b10).below b11).cell 0 _ rfl, (((Vb_9.out.below (Below.refl _ _).drew).below b10).below b11).cell 1 _ rfl⟩ | exact ⟨((Vy_9.out.below (Below.refl _ _).drew).below b10).cell 0 _ rfl, ((Vy_9.out.below (Below.refl _ _).drew).below b10).cell 1 _ rfl, ((Vb_9.out.below (Below.refl _ _).drew).below b10).cell 0 _ rfl, ((Vb_9.out.below (Below.refl _ _).drew).below b10).cell 1 _ rfl⟩ | go_keep)
          (first
            | (go_at_call 26; refine (Calls.mono (LinK.copy 0 w0.heap.size zl Al cl l _ (hl.below B9.out.drew) hnl)) ?_; rintro e w10 ⟨C9, rfl, rc9, fc9, b10⟩)
            | (go_at_call 29; refine (Calls.mono (LinK.eq_same _ _ _ _ zl Y1 C9 l.length l.length l _ ((Oy_9.out.1.below (Below.refl _ _).drew).below b10) rc9 (by omega))) ?_; rintro e w11 ⟨rfl, b11⟩))
        have h10 : w9.heap.size ≤ w10.heap.size := b10.size
        have h11 : w10.heap.size ≤ w11.heap.size := b11.size
        have d11 : Below w9.heap.size w9 w11 := (((Below.refl w9.heap.size w9).drew.trans (b10.mono (show w9.heap.size ≤ w9.heap.size by omega))).trans (b11.mono (show w9.heap.size ≤ w10.heap.size by omega)))
        have hs11 := d11.size
        have B11 := Lib.hid (B9.out.trans (d11.mono B9.out.size))
        have Va_11 := Lib.hid (Va_9.out.below d11)
        have Vb_11 := Lib.hid (Vb_9.out.below d11)
        have Vw_11 := Lib.hid (Vw_9.out.below d11)
        have Ow_11 := Lib.hid (Ow_9.out.below d11)
        have Ox_11 := Lib.hid (Ox_9.out.below d11)
        have Vx_11 := Lib.hid (Vx_9.out.below d11)
        have Oy_11 := Lib.hid (Oy_9.out.below d11)
        have Vy_11 := Lib.hid (Vy_9.out.below d11)
        have Og_11 := Lib.hid (Og_9.out.below d11)
        have Vg_11 := Lib.hid (Vg_9.out.below d11)
        clear Va_9 Vb_9 Vw_9 Ow_9 Ox_9 Vx_9 Oy_9 Vy_9 Og_9 Vg_9 c_Va_0 c_Va_1 lt_Va c_Vb_0 c_Vb_1 lt_Vb c_Vw_0 c_Vw_1 lt_Vw c_Vx_0 c_Vx_1 lt_Vx c_Vy_0 c_Vy_1 lt_Vy c_Vg_0 c_Vg_1 lt_Vg b10 h10 b11 h11 d11
        have c_Va_0 := Va_11.out.cell 0 _ rfl
        have c_Va_1 := Va_11.out.cell 1 _ rfl
        have lt_Va := Va_11.out.lt
        have c_Vb_0 := Vb_11.out.cell 0 _ rfl
        have c_Vb_1 := Vb_11.out.cell 1 _ rfl
        have lt_Vb := Vb_11.out.lt
        have c_Vw_0 := Vw_11.out.cell 0 _ rfl
        have c_Vw_1 := Vw_11.out.cell 1 _ rfl
        have lt_Vw := Vw_11.out.lt
        have c_Vx_0 := Vx_11.out.cell 0 _ rfl
        have c_Vx_1 := Vx_11.out.cell 1 _ rfl
        have lt_Vx := Vx_11.out.lt
        have c_Vy_0 := Vy_11.out.cell 0 _ rfl
        have c_Vy_1 := Vy_11.out.cell 1 _ rfl
        have lt_Vy := Vy_11.out.lt
        have c_Vg_0 := Vg_11.out.cell 0 _ rfl
        have c_Vg_1 := Vg_11.out.cell 1 _ rfl
        have lt_Vg := Vg_11.out.lt
        go_wp2_with fail
        refine (Calls.mono (SysK.mark1 (w3.heap.size) w4.heap.size ns X1 s.length s _ Ox_11.out hns)) ?_
        rintro e w12 ⟨rfl, rm0, b12⟩
        have hs12 := b12.size
        have B12 := Lib.hid (below_mod B11.out b12 (by have := B11.out.size; omega) B11.out.size)
        have Va_12 := Lib.hid (Va_11.out.keep b12 (by omega))
        have Vb_12 := Lib.hid (Vb_11.out.keep b12 (by omega))
        have Vw_12 := Lib.hid (Vw_11.out.keep b12 (by omega))
        have Ow_12 := Lib.hid (Ow_11.out.keep b12 (by omega))
        have Vx_12 := Lib.hid (Vx_11.out.keep b12 (by omega))
        have Oy_12 := Lib.hid (Oy_11.out.keep b12 (by omega))
        have Vy_12 := Lib.hid (Vy_11.out.keep b12 (by omega))
        have Og_12 := Lib.hid (Og_11.out.keep b12 (by omega))
        have Vg_12 := Lib.hid (Vg_11.out.keep b12 (by omega))
        clear Va_11 Vb_11 Vw_11 Ow_11 Vx_11 Oy_11 Vy_11 Og_11 Vg_11 c_Va_0 c_Va_1 lt_Va c_Vb_0 c_Vb_1 lt_Vb c_Vw_0 c_Vw_1 lt_Vw c_Vx_0 c_Vx_1 lt_Vx c_Vy_0 c_Vy_1 lt_Vy c_Vg_0 c_Vg_1 lt_Vg b12
        clear rm0 Ox_11
        have c_Va_0 := Va_12.out.cell 0 _ rfl
        have c_Va_1 := Va_12.out.cell 1 _ rfl
        have lt_Va := Va_12.out.lt
        have c_Vb_0 := Vb_12.out.cell 0 _ rfl
        have c_Vb_1 := Vb_12.out.cell 1 _ rfl
        have lt_Vb := Vb_12.out.lt
        have c_Vw_0 := Vw_12.out.cell 0 _ rfl
        have c_Vw_1 := Vw_12.out.cell 1 _ rfl
        have lt_Vw := Vw_12.out.lt
        have c_Vx_0 := Vx_12.out.cell 0 _ rfl
        have c_Vx_1 := Vx_12.out.cell 1 _ rfl
        have lt_Vx := Vx_12.out.lt
        have c_Vy_0 := Vy_12.out.cell 0 _ rfl
        have c_Vy_1 := Vy_12.out.cell 1 _ rfl
        have lt_Vy := Vy_12.out.lt
        have c_Vg_0 := Vg_12.out.cell 0 _ rfl
        have c_Vg_1 := Vg_12.out.cell 1 _ rfl
        have lt_Vg := Vg_12.out.lt
        go_wp2_with fail
        refine (Calls.mono (LinK.markK (w4.heap.size + 1) w5.heap.size zl Y1 l.length (Mem.linsSize s) l _ Oy_12.out hns hnl)) ?_
        rintro e w13 ⟨rfl, rm1, b13⟩
        have hs13 := b13.size
        have B13 := Lib.hid (below_mod B12.out b13 (by have := B12.out.size; omega) B12.out.size)
        have Va_13 := Lib.hid (Va_12.out.keep b13 (by omega))
        have Vb_13 := Lib.hid (Vb_12.out.keep b13 (by omega))
        have Vw_13 := Lib.hid (Vw_12.out.keep b13 (by omega))
        have Ow_13 := Lib.hid (Ow_12.out.keep b13 (by omega))
        have Vx_13 := Lib.hid (Vx_12.out.keep b13 (by omega))
        have Vy_13 := Lib.hid (Vy_12.out.keep b13 (by omega))
        have Og_13 := Lib.hid (Og_12.out.keep b13 (by omega))
        have Vg_13 := Lib.hid (Vg_12.out.keep b13 (by omega))
        clear Va_12 Vb_12 Vw_12 Ow_12 Vx_12 Vy_12 Og_12 Vg_12 c_Va_0 c_Va_1 lt_Va c_Vb_0 c_Vb_1 lt_Vb c_Vw_0 c_Vw_1 lt_Vw c_Vx_0 c_Vx_1 lt_Vx c_Vy_0 c_Vy_1 lt_Vy c_Vg_0 c_Vg_1 lt_Vg b13
        clear rm1 Oy_12
        have c_Va_0 := Va_13.out.cell 0 _ rfl
        have c_Va_1 := Va_13.out.cell 1 _ rfl
        have lt_Va := Va_13.out.lt
        have c_Vb_0 := Vb_13.out.cell 0 _ rfl
        have c_Vb_1 := Vb_13.out.cell 1 _ rfl
        have lt_Vb := Vb_13.out.lt
        have c_Vw_0 := Vw_13.out.cell 0 _ rfl
        have c_Vw_1 := Vw_13.out.cell 1 _ rfl
        have lt_Vw := Vw_13.out.lt
        have c_Vx_0 := Vx_13.out.cell 0 _ rfl
        have c_Vx_1 := Vx_13.out.cell 1 _ rfl
        have lt_Vx := Vx_13.out.lt
        have c_Vy_0 := Vy_13.out.cell 0 _ rfl
        have c_Vy_1 := Vy_13.out.cell 1 _ rfl
        have lt_Vy := Vy_13.out.lt
        have c_Vg_0 := Vg_13.out.cell 0 _ rfl
        have c_Vg_1 := Vg_13.out.cell 1 _ rfl
        have lt_Vg := Vg_13.out.lt
        go_wp2_with fail
        refine (Calls.mono (FarK.eq_same _ _ _ _ T.1 G W cg cw T.2 _ Og_13.out.1 Ow_13.out.1 (by omega))) ?_
        rintro e w14 ⟨rfl, b14⟩
        have hs14 : w13.heap.size ≤ w14.heap.size := b14.size
        have d14 : Below w13.heap.size w13 w14 := (Below.refl w13.heap.size w13).trans (b14.mono (show w13.heap.size ≤ w13.heap.size by first | exact Nat.le_refl _ | (simp; done) | (simp; omega)))
        have B14 := Lib.hid (B13.out.trans (d14.mono B13.out.size))
        have Va_14 := Lib.hid (Va_13.out.below d14)
        have Vb_14 := Lib.hid (Vb_13.out.below d14)
        have Vw_14 := Lib.hid (Vw_13.out.below d14)
        have Ow_14 := Lib.hid (Ow_13.out.below d14)
        have Vx_14 := Lib.hid (Vx_13.out.below d14)
        have Vy_14 := Lib.hid (Vy_13.out.below d14)
        have Og_14 := Lib.hid (Og_13.out.below d14)
        have Vg_14 := Lib.hid (Vg_13.out.below d14)
        clear Va_13 Vb_13 Vw_13 Ow_13 Vx_13 Vy_13 Og_13 Vg_13 c_Va_0 c_Va_1 lt_Va c_Vb_0 c_Vb_1 lt_Vb c_Vw_0 c_Vw_1 lt_Vw c_Vx_0 c_Vx_1 lt_Vx c_Vy_0 c_Vy_1 lt_Vy c_Vg_0 c_Vg_1 lt_Vg b14 d14
        have c_Va_0 := Va_14.out.cell 0 _ rfl
        have c_Va_1 := Va_14.out.cell 1 _ rfl
        have lt_Va := Va_14.out.lt
        have c_Vb_0 := Vb_14.out.cell 0 _ rfl
        have c_Vb_1 := Vb_14.out.cell 1 _ rfl
        have lt_Vb := Vb_14.out.lt
        have c_Vw_0 := Vw_14.out.cell 0 _ rfl
        have c_Vw_1 := Vw_14.out.cell 1 _ rfl
        have lt_Vw := Vw_14.out.lt
        have c_Vx_0 := Vx_14.out.cell 0 _ rfl
        have c_Vx_1 := Vx_14.out.cell 1 _ rfl
        have lt_Vx := Vx_14.out.lt
        have c_Vy_0 := Vy_14.out.cell 0 _ rfl
        have c_Vy_1 := Vy_14.out.cell 1 _ rfl
        have lt_Vy := Vy_14.out.lt
        have c_Vg_0 := Vg_14.out.cell 0 _ rfl
        have c_Vg_1 := Vg_14.out.cell 1 _ rfl
        have lt_Vg := Vg_14.out.lt
        go_wp2_with fail
        refine (Calls.mono (FarK.mark1 (w5.heap.size + 1) w6.heap.size T.1 G cg T.2 _ Og_14.out (by omega))) ?_
        rintro e w15 ⟨rfl, rm, b15⟩
        have hs15 := b15.size
        have B15 := Lib.hid (below_mod B14.out b15 (by have := B14.out.size; omega) B14.out.size)
        have Va_15 := Lib.hid (Va_14.out.keep b15 (by omega))
        have Vb_15 := Lib.hid (Vb_14.out.keep b15 (by omega))
        have Vw_15 := Lib.hid (Vw_14.out.keep b15 (by omega))
        have Ow_15 := Lib.hid (Ow_14.out.keep b15 (by omega))
        have Vx_15 := Lib.hid (Vx_14.out.keep b15 (by omega))
        have Vy_15 := Lib.hid (Vy_14.out.keep b15 (by omega))
        have Vg_15 := Lib.hid (Vg_14.out.keep b15 (by omega))
        clear Va_14 Vb_14 Vw_14 Ow_14 Vx_14 Vy_14 Vg_14 c_Va_0 c_Va_1 lt_Va c_Vb_0 c_Vb_1 lt_Vb c_Vw_0 c_Vw_1 lt_Vw c_Vx_0 c_Vx_1 lt_Vx c_Vy_0 c_Vy_1 lt_Vy c_Vg_0 c_Vg_1 lt_Vg b15
        have Rg := Lib.hid rm
        clear rm Og_14
        have c_Va_0 := Va_15.out.cell 0 _ rfl
        have c_Va_1 := Va_15.out.cell 1 _ rfl
        have lt_Va := Va_15.out.lt
        have c_Vb_0 := Vb_15.out.cell 0 _ rfl
        have c_Vb_1 := Vb_15.out.cell 1 _ rfl
        have lt_Vb := Vb_15.out.lt
        have c_Vw_0 := Vw_15.out.cell 0 _ rfl
        have c_Vw_1 := Vw_15.out.cell 1 _ rfl
        have lt_Vw := Vw_15.out.lt
        have c_Vx_0 := Vx_15.out.cell 0 _ rfl
        have c_Vx_1 := Vx_15.out.cell 1 _ rfl
        have lt_Vx := Vx_15.out.lt
        have c_Vy_0 := Vy_15.out.cell 0 _ rfl
        have c_Vy_1 := Vy_15.out.cell 1 _ rfl
        have lt_Vy := Vy_15.out.lt
        have c_Vg_0 := Vg_15.out.cell 0 _ rfl
        have c_Vg_1 := Vg_15.out.cell 1 _ rfl
        have lt_Vg := Vg_15.out.lt
        go_wp2_with fail
        refine (Calls.mono (FarK.held1 _ _ T.1 G cg T.2.length _ Rg.out (by omega))) ?_
        rintro e w16 ⟨rfl, b16⟩
        have hs16 : w15.heap.size ≤ w16.heap.size := b16.size
        have d16 : Below w15.heap.size w15 w16 := (Below.refl w15.heap.size w15).trans (b16.mono (show w15.heap.size ≤ w15.heap.size by first | exact Nat.le_refl _ | (simp; done) | (simp; omega)))
        have B16 := Lib.hid (B15.out.trans (d16.mono B15.out.size))
        have Va_16 := Lib.hid (Va_15.out.below d16)
        have Vb_16 := Lib.hid (Vb_15.out.below d16)
        have Vw_16 := Lib.hid (Vw_15.out.below d16)
        have Ow_16 := Lib.hid (Ow_15.out.below d16)
        have Vx_16 := Lib.hid (Vx_15.out.below d16)
        have Vy_16 := Lib.hid (Vy_15.out.below d16)
        have Vg_16 := Lib.hid (Vg_15.out.below d16)
        have Rg_16 := Lib.hid (Rg.out.below d16)
        clear Va_15 Vb_15 Vw_15 Ow_15 Vx_15 Vy_15 Vg_15 Rg c_Va_0 c_Va_1 lt_Va c_Vb_0 c_Vb_1 lt_Vb c_Vw_0 c_Vw_1 lt_Vw c_Vx_0 c_Vx_1 lt_Vx c_Vy_0 c_Vy_1 lt_Vy c_Vg_0 c_Vg_1 lt_Vg b16 d16
        have c_Va_0 := Va_16.out.cell 0 _ rfl
        have c_Va_1 := Va_16.out.cell 1 _ rfl
        have lt_Va := Va_16.out.lt
        have c_Vb_0 := Vb_16.out.cell 0 _ rfl
        have c_Vb_1 := Vb_16.out.cell 1 _ rfl
        have lt_Vb := Vb_16.out.lt
        have c_Vw_0 := Vw_16.out.cell 0 _ rfl
        have c_Vw_1 := Vw_16.out.cell 1 _ rfl
        have lt_Vw := Vw_16.out.lt
        have c_Vx_0 := Vx_16.out.cell 0 _ rfl
        have c_Vx_1 := Vx_16.out.cell 1 _ rfl
        have lt_Vx := Vx_16.out.lt
        have c_Vy_0 := Vy_16.out.cell 0 _ rfl
        have c_Vy_1 := Vy_16.out.cell 1 _ rfl
        have lt_Vy := Vy_16.out.lt
        have c_Vg_0 := Vg_16.out.cell 0 _ rfl
        have c_Vg_1 := Vg_16.out.cell 1 _ rfl
        have lt_Vg := Vg_16.out.lt
        go_upto_region 31 with fail
        go_cut [15, 16] (fun s8 s9 wx => FarK.AfterO w16 T q s8 s9 wx)
        case first =>
          have KS := Lib.hid (fun W (h : Below w16.heap.size w16 W) => (show Below w16.heap.size w16 W ∧ W.cell? ⟨w0.heap.size, 0, none⟩ = some (.int .i64 ns) ∧ W.cell? ⟨w0.heap.size, 1, none⟩ = some (.slice As s.length cs) ∧ W.cell? ⟨w0.heap.size + 1, 0, none⟩ = some (.int .i64 zl) ∧ W.cell? ⟨w0.heap.size + 1, 1, none⟩ = some (.slice Al l.length cl) from ⟨h, (Va_16.out.below h).cell 0 _ rfl, (Va_16.out.below h).cell 1 _ rfl, (Vb_16.out.below h).cell 0 _ rfl, (Vb_16.out.below h).cell 1 _ rfl⟩))
          go_region_held3 (fun w' => Below w16.heap.size w16 w' ∧ w'.cell? ⟨w0.heap.size, 0, none⟩ = some (.int .i64 ns) ∧ w'.cell? ⟨w0.heap.size, 1, none⟩ = some (.slice As s.length cs) ∧ w'.cell? ⟨w0.heap.size + 1, 0, none⟩ = some (.int .i64 zl) ∧ w'.cell? ⟨w0.heap.size + 1, 1, none⟩ = some (.slice Al l.length cl))
            (first | exact KS.out _ hd5 | exact KS.out _ hd4 | exact KS.out _ hd3 | exact KS.out _ (Below.refl _ _).drew | exact KS.out _ (hd5.alloc hd5.size _) | exact KS.out _ (hd4.alloc hd4.size _) | exact KS.out _ (hd3.alloc hd3.size _) | exact KS.out _ ((Below.refl _ _).alloc (Nat.le_refl _) _).drew | exact KS.out _ ((hd5.setCell (by first | (simp; done) | (exact hd4.size) | (exact hd3.size)) _).setCell (by first | (simp; done) | (exact hd4.size) | (exact hd3.size)) _))
            (first
              | (go_at_call_of 25 (Value.agg #[.int .i64 ns, .slice As s.length cs]); refine (Calls.mono (SysK.copy ns As cs s _ (hs.below (by first | exact B16.out.drew | exact ((B16.out.alloc B16.out.size _).drew))) hns)) ?_; rintro e u3 ⟨C1, rfl, oc1, b3⟩; (have hb3 : Below w0.heap.size w0 u3 := by first | exact B16.out.drew.trans (b3.mono B16.out.drew.size) | exact ((B16.out.alloc B16.out.size _).drew).trans (b3.mono ((B16.out.alloc B16.out.size _).drew).size)); (have hd3 : Below w16.heap.size w16 u3 := by first | exact ((Below.refl w16.heap.size w16).drew).trans (b3.mono ((Below.refl w16.heap.size w16).drew).size) | exact (((Below.refl w16.heap.size w16).alloc (Nat.le_refl _) _).drew).trans (b3.mono (((Below.refl w16.heap.size w16).alloc (Nat.le_refl _) _).drew).size)); (try (have v3 : Lvar u3 w16.heap.size #[Value.int .i64 0, Value.slice none 0 0] := ((Lvar.new w16 _ _).below (Below.refl _ _).drew).below b3)))
              | (go_at_call_of 26 (Value.agg #[.int .i64 zl, .slice Al l.length cl]); refine (Calls.mono (LinK.copy 0 w0.heap.size zl Al cl l _ (hl.below (by first | exact hb3 | exact hb3.alloc hb3.size _)) hnl)) ?_; rintro e u4 ⟨C2, rfl, rc2, fc2, b4⟩; (have hs4 : Below u3.heap.size u3 u4 := by first | exact b4 | exact ((Below.refl _ _).alloc (Nat.le_refl _) _).trans (b4.mono (by simp))); (have hb4 := hb3.trans (hs4.mono hb3.size)); (have hd4 := hd3.trans (hs4.mono hd3.size)); (try (have v4 := v3.below hs4)); (try (have v4 : Lvar u4 u3.heap.size #[Value.int .i64 0, Value.slice none 0 0] := (Lvar.new u3 _ _).below b4)))
              | (go_at_call 10; refine (Calls.mono (IM.out C1 s.length C2 l.length _ _ _ ((oc1.below hs4).below (by first | exact Below.refl _ _ | exact (Below.refl _ _).alloc (Nat.le_refl _) _)).arg (rc2.below (by first | exact Below.refl _ _ | exact (Below.refl _ _).alloc (Nat.le_refl _) _)))) ?_; rintro e u5 ⟨Aw, cw, rfl, rw5, fw5, b5⟩; (have hs5 : Below u4.heap.size u4 u5 := by first | exact b5 | exact ((Below.refl _ _).alloc (Nat.le_refl _) _).trans (b5.mono (by simp))); (have hb5 := hb4.trans (hs5.mono hb4.size)); (have hd5 := hd4.trans (hs5.mono hd4.size)); (try (have v5 := v4.below hs5)); (try (have v5 : Lvar u5 u4.heap.size #[Value.int .i64 0, Value.slice none 0 0] := (Lvar.new u4 _ _).below b5)); (try (have z0 := v5.cell 0 _ rfl)); (try (have z1 := v5.cell 1 _ rfl)); (try (have y0 := v5.frozen 0)); (try (have y1 := v5.frozen 1))))
          all_goals (go_wp2_with fail)
          all_goals go_meet
          all_goals first | exact FarK.afterO_new hd5 rw5 fw5 (by first | exact hd4.size | (have := hd4.size; simp; omega)) | exact FarK.afterO_old hd5 v5 rw5 fw5 (by first | exact hd4.size | exact hd3.size | exact Nat.le_refl _) (by first | exact v4.lt | (simp; done) | (simp; omega))
        case rest =>
          obtain ⟨w17, rfl⟩ : ∃ w17 : World, w17 = wc := ⟨_, rfl⟩
          obtain ⟨bh, H, ch, rfl, rfl, hbh, Vh_, Oh_, d17⟩ := hcut
          have hb2h := Vh_.lt
          have Vh_17 := Lib.hid Vh_
          have Oh_17 := Lib.hid Oh_
          clear Vh_ Oh_
          have hs17 := d17.size
          have B17 := Lib.hid (B16.out.trans (d17.mono B16.out.size))
          have Va_17 := Lib.hid (Va_16.out.below d17)
          have Vb_17 := Lib.hid (Vb_16.out.below d17)
          have Vw_17 := Lib.hid (Vw_16.out.below d17)
          have Ow_17 := Lib.hid (Ow_16.out.below d17)
          have Vx_17 := Lib.hid (Vx_16.out.below d17)
          have Vy_17 := Lib.hid (Vy_16.out.below d17)
          have Vg_17 := Lib.hid (Vg_16.out.below d17)
          have Rg_17 := Lib.hid (Rg_16.out.below d17)
          clear Va_16 Vb_16 Vw_16 Ow_16 Vx_16 Vy_16 Vg_16 Rg_16 c_Va_0 c_Va_1 lt_Va c_Vb_0 c_Vb_1 lt_Vb c_Vw_0 c_Vw_1 lt_Vw c_Vx_0 c_Vx_1 lt_Vx c_Vy_0 c_Vy_1 lt_Vy c_Vg_0 c_Vg_1 lt_Vg d17
          have c_Va_0 := Va_17.out.cell 0 _ rfl
          have c_Va_1 := Va_17.out.cell 1 _ rfl
          have lt_Va := Va_17.out.lt
          have c_Vb_0 := Vb_17.out.cell 0 _ rfl
          have c_Vb_1 := Vb_17.out.cell 1 _ rfl
          have lt_Vb := Vb_17.out.lt
          have c_Vw_0 := Vw_17.out.cell 0 _ rfl
          have c_Vw_1 := Vw_17.out.cell 1 _ rfl
          have lt_Vw := Vw_17.out.lt
          have c_Vx_0 := Vx_17.out.cell 0 _ rfl
          have c_Vx_1 := Vx_17.out.cell 1 _ rfl
          have lt_Vx := Vx_17.out.lt
          have c_Vy_0 := Vy_17.out.cell 0 _ rfl
          have c_Vy_1 := Vy_17.out.cell 1 _ rfl
          have lt_Vy := Vy_17.out.lt
          have c_Vg_0 := Vg_17.out.cell 0 _ rfl
          have c_Vg_1 := Vg_17.out.cell 1 _ rfl
          have lt_Vg := Vg_17.out.lt
          have c_Vh_0 := Vh_17.out.cell 0 _ rfl
          have c_Vh_1 := Vh_17.out.cell 1 _ rfl
          have lt_Vh := Vh_17.out.lt
          go_wp2_with fail
          refine (Calls.mono (FarK.eq_same _ _ _ _ T.1 H W ch cw T.2 _ Oh_17.out.1 Ow_17.out.1 (by omega))) ?_
          rintro e w18 ⟨rfl, b18⟩
          have hs18 : w17.heap.size ≤ w18.heap.size := b18.size
          have d18 : Below w17.heap.size w17 w18 := (Below.refl w17.heap.size w17).trans (b18.mono (show w17.heap.size ≤ w17.heap.size by first | exact Nat.le_refl _ | (simp; done) | (simp; omega)))
          have B18 := Lib.hid (B17.out.trans (d18.mono B17.out.size))
          have Va_18 := Lib.hid (Va_17.out.below d18)
          have Vb_18 := Lib.hid (Vb_17.out.below d18)
          have Vw_18 := Lib.hid (Vw_17.out.below d18)
          have Ow_18 := Lib.hid (Ow_17.out.below d18)
          have Vx_18 := Lib.hid (Vx_17.out.below d18)
          have Vy_18 := Lib.hid (Vy_17.out.below d18)
          have Vg_18 := Lib.hid (Vg_17.out.below d18)
          have Rg_18 := Lib.hid (Rg_17.out.below d18)
          have Vh_18 := Lib.hid (Vh_17.out.below d18)
          have Oh_18 := Lib.hid (Oh_17.out.below d18)
          clear Va_17 Vb_17 Vw_17 Ow_17 Vx_17 Vy_17 Vg_17 Rg_17 Vh_17 Oh_17 c_Va_0 c_Va_1 lt_Va c_Vb_0 c_Vb_1 lt_Vb c_Vw_0 c_Vw_1 lt_Vw c_Vx_0 c_Vx_1 lt_Vx c_Vy_0 c_Vy_1 lt_Vy c_Vg_0 c_Vg_1 lt_Vg c_Vh_0 c_Vh_1 lt_Vh b18 d18
          have c_Va_0 := Va_18.out.cell 0 _ rfl
          have c_Va_1 := Va_18.out.cell 1 _ rfl
          have lt_Va := Va_18.out.lt
          have c_Vb_0 := Vb_18.out.cell 0 _ rfl
          have c_Vb_1 := Vb_18.out.cell 1 _ rfl
          have lt_Vb := Vb_18.out.lt
          have c_Vw_0 := Vw_18.out.cell 0 _ rfl
          have c_Vw_1 := Vw_18.out.cell 1 _ rfl
          have lt_Vw := Vw_18.out.lt
          have c_Vx_0 := Vx_18.out.cell 0 _ rfl
          have c_Vx_1 := Vx_18.out.cell 1 _ rfl
          have lt_Vx := Vx_18.out.lt
          have c_Vy_0 := Vy_18.out.cell 0 _ rfl
          have c_Vy_1 := Vy_18.out.cell 1 _ rfl
          have lt_Vy := Vy_18.out.lt
          have c_Vg_0 := Vg_18.out.cell 0 _ rfl
          have c_Vg_1 := Vg_18.out.cell 1 _ rfl
          have lt_Vg := Vg_18.out.lt
          have c_Vh_0 := Vh_18.out.cell 0 _ rfl
          have c_Vh_1 := Vh_18.out.cell 1 _ rfl
          have lt_Vh := Vh_18.out.lt
          go_wp2_with fail
          refine (Calls.mono (FarK.held1 _ _ T.1 G cg T.2.length _ Rg_18.out (by omega))) ?_
          rintro e w19 ⟨rfl, b19⟩
          have hs19 : w18.heap.size ≤ w19.heap.size := b19.size
          have d19 : Below w18.heap.size w18 w19 := (Below.refl w18.heap.size w18).trans (b19.mono (show w18.heap.size ≤ w18.heap.size by first | exact Nat.le_refl _ | (simp; done) | (simp; omega)))
          have B19 := Lib.hid (B18.out.trans (d19.mono B18.out.size))
          have Va_19 := Lib.hid (Va_18.out.below d19)
          have Vb_19 := Lib.hid (Vb_18.out.below d19)
          have Vw_19 := Lib.hid (Vw_18.out.below d19)
          have Ow_19 := Lib.hid (Ow_18.out.below d19)
          have Vx_19 := Lib.hid (Vx_18.out.below d19)
          have Vy_19 := Lib.hid (Vy_18.out.below d19)
          have Vg_19 := Lib.hid (Vg_18.out.below d19)
          have Rg_19 := Lib.hid (Rg_18.out.below d19)
          have Vh_19 := Lib.hid (Vh_18.out.below d19)
          have Oh_19 := Lib.hid (Oh_18.out.below d19)
          clear Va_18 Vb_18 Vw_18 Ow_18 Vx_18 Vy_18 Vg_18 Rg_18 Vh_18 Oh_18 c_Va_0 c_Va_1 lt_Va c_Vb_0 c_Vb_1 lt_Vb c_Vw_0 c_Vw_1 lt_Vw c_Vx_0 c_Vx_1 lt_Vx c_Vy_0 c_Vy_1 lt_Vy c_Vg_0 c_Vg_1 lt_Vg c_Vh_0 c_Vh_1 lt_Vh b19 d19
          have c_Va_0 := Va_19.out.cell 0 _ rfl
          have c_Va_1 := Va_19.out.cell 1 _ rfl
          have lt_Va := Va_19.out.lt
          have c_Vb_0 := Vb_19.out.cell 0 _ rfl
          have c_Vb_1 := Vb_19.out.cell 1 _ rfl
          have lt_Vb := Vb_19.out.lt
          have c_Vw_0 := Vw_19.out.cell 0 _ rfl
          have c_Vw_1 := Vw_19.out.cell 1 _ rfl
          have lt_Vw := Vw_19.out.lt
          have c_Vx_0 := Vx_19.out.cell 0 _ rfl
          have c_Vx_1 := Vx_19.out.cell 1 _ rfl
          have lt_Vx := Vx_19.out.lt
          have c_Vy_0 := Vy_19.out.cell 0 _ rfl
          have c_Vy_1 := Vy_19.out.cell 1 _ rfl
          have lt_Vy := Vy_19.out.lt
          have c_Vg_0 := Vg_19.out.cell 0 _ rfl
          have c_Vg_1 := Vg_19.out.cell 1 _ rfl
          have lt_Vg := Vg_19.out.lt
          have c_Vh_0 := Vh_19.out.cell 0 _ rfl
          have c_Vh_1 := Vh_19.out.cell 1 _ rfl
          have lt_Vh := Vh_19.out.lt
          go_wp2
          go_ret
          exact ⟨rfl, B19.out⟩
    · simp only [if_neg htl] at SZ2
      have HS2 := Lib.hid SZ2
      clear SZ2 hlenl hte htc
      have l0 := (Lvar.new (w0.alloc (Obj.cells #[Value.int .i64 ns, Value.slice As s.length cs] 47)) #[Value.int .i64 zl, Value.slice Al l.length cl] 48)
      have s0 : Below w0.heap.size w0 ((w0.alloc (Obj.cells #[Value.int .i64 ns, Value.slice As s.length cs] 47)).alloc (Obj.cells #[Value.int .i64 zl, Value.slice Al l.length cl] 48)) := (((Below.refl _ _).alloc (by first | (simp; done) | (simp; omega)) _).alloc (by first | (simp; done) | (simp; omega)) _)
      have S0 := Lib.hid s0
      clear s0
      go_enter Try.func5, Try.ntmps5
      go_wp2_with fail
      refine (HS.out _ (hs.below S0.out)).mono ?_
      rintro e w1 ⟨rfl, b1⟩
      have L0 := l0.below b1
      simp only [World.size_alloc] at L0
      have k0 := L0.cell 0 _ rfl
      have k1 := L0.cell 1 _ rfl
      have S1 := Lib.hid (S0.out.trans (b1.mono S0.out.size))
      clear l0 b1
      go_wp2_with fail
      refine (HS2.out _).mono ?_
      rintro e w2 ⟨rfl, b2⟩
      have S2 := Lib.hid (S1.out.trans (b2.mono S1.out.size))
      clear b2
      go_wp2
      go_ret
      exact ⟨rfl, S2.out⟩

  · simp only [if_neg hts] at SZ
    have HS := Lib.hid SZ
    clear SZ hlens hwfs
    have s0 : Below w0.heap.size w0 ((w0.alloc (Obj.cells #[Value.int .i64 ns, Value.slice As s.length cs] 47)).alloc (Obj.cells #[Value.int .i64 zl, Value.slice Al l.length cl] 48)) := (((Below.refl _ _).alloc (by first | (simp; done) | (simp; omega)) _).alloc (by first | (simp; done) | (simp; omega)) _)
    have S0 := Lib.hid s0
    clear s0
    go_enter Try.func5, Try.ntmps5
    go_wp2_with fail
    refine (HS.out _ (hs.below S0.out)).mono ?_
    rintro e w1 ⟨rfl, b1⟩
    go_wp2
    go_ret
    exact ⟨rfl, S0.out.trans (b1.mono S0.out.size)⟩

set_option maxRecDepth 100000 in
theorem lifted (os : Os) (started : os.Started) (H : Type) (enc : TypeId × Value → H) :
    ReturnsInHanded {} Try.checked os 5 .any (Rows.fnExactFindFarkasSpec.pre6 enc Try.prog Try.f5 Rows.fnExactFindFarkasRow.domain false) (Rows.fnExactFindFarkasSpec.post enc Try.prog Try.f5 false true false false) := by
  refine returnsInHanded_of_change (C := Try.checked) Frame.own started (by kernel_rfl) Try.func5
    (ChangeSpec.witness6 (enc := enc) (C := Try.checked) false ⟨#[], #[.agg #[.int .i64 0, .slice none 0 0], .agg #[.int .i64 0, .slice none 0 0]], []⟩ 8 (by kernel_rfl) (by kernel_rfl) (by kernel_rfl) (by kernel_rfl)) ?_
  intro W base args ds gs before hval0 hW _ _
  have hW' := hW
  have hval : ∀ (j : Nat) t v, Try.f5.params[j]? = some t → args[j]? = some v → Value.okWide Try.prog W .any base t v := hval0
  obtain ⟨p, q, hA0, hV, rfl, hfz, hnd⟩ := hW
  have hA : DataW.TrodAll enc Try.prog W 0 (fun _ => true) true Try.f5.params.toList args.toList ds p := hA0
  rw [Try.params5] at hA hval
  obtain ⟨v0, v1, d0, d1, p0, p1, rfl, rfl, rfl, h0, h1⟩ := trodAll_two hA
  have hlt := fun x hx => hW'.lt x hx
  obtain ⟨rfl, rfl⟩ := trodVars_none hV
  obtain ⟨ny, ay, cy, fpy, y, rfl, wy, hry, hly, hsy⟩ := Frame.open_sys (W := W) isLin Try.underlying47 (by kernel_rfl) (by kernel_rfl) rfl rfl Try.underlying45 (hval 0 47 v0 rfl rfl) h0 (fun x hx => hlt x (by simp [hx]))
  obtain ⟨zl, al, cl, l, rfl, wl, hrl, hll, hsl, hcl⟩ := Frame.open_lin (W := W) Try.underlying48 (by kernel_rfl) (by kernel_rfl) rfl rfl Try.underlying3 Try.underlying27 (by kernel_rfl) (hval 1 48 v1 rfl rfl) h1 (fun x hx => hlt x (by simp [hx]))
  refine (walk ny ay cy y zl al cl l W ⟨_, _, hry⟩ hly hsy hrl hll).mono fun e W' ⟨he, hb⟩ => ?_
  subst he
  exact ⟨_, rfl, Frame.law_post (tb := 4) Frame.laidOut (by kernel_rfl) (by kernel_rfl) (by kernel_rfl) Try.underlying4 hW' rfl hb⟩

theorem proved : Rows.FnExactFindFarkasSaid :=
  OpenClaim.holds_of_wide 5 Try.f5 rfl rfl rfl rfl rfl rfl rfl ⟨rfl, rfl, rfl, rfl, rfl⟩ rfl rfl rfl rfl rfl (by kernel_rfl) Try.func5 (by kernel_rfl)
    (of_decide_eq_true (by kernel_rfl)) (by unfold Func.isWrapper; first | (rw [if_pos (by decide +kernel)]; kernel_rfl) | (rw [if_neg (by decide +kernel)]; exact ⟨rfl, rfl⟩))
    (fun os started H enc _ => lifted os started H enc)
end LawFindFarkas
end Go.Proofs.Ytmkelfjnjnjgbaa
