import Derived.Test.YtkeejkpeniinkaaGreatDoorCards
import Derived.Test.YtkeejkpeniinkaaGreatDoorTie
import Derived.Test.YtkeejkpeniinkaaGreatDoorFrame
import Derived.Test.YtkeejkpeniinkaaGreatDoorParseCons
import Derived.Test.YtkeejkpeniinkaaGreatDoorStrEq
import Derived.Test.YtkeejkpeniinkaaGreatDoorStrKeep
import Derived.Test.YtkeejkpeniinkaaGreatDoorStrSize
import Derived.Test.YtkeejkpeniinkaaGreatDoorLinK
import Derived.Deep.RegionHeld3
import Derived.SliceStrings
import Derived.LaidMore
import Derived.LaidSub
import Derived.MakeChecks
import Derived.Deep.DeepWitnessRowRef
import Derived.SevenTiedAt
/- At every text and every slice of strings, impl.ParseConstraint answers as its model, writes nothing into its arguments and answers in new memory: the law FnExactParseConstraint returns true. Its condition: the listed variables hold what their initialisers lay. -/
namespace Go.Proofs.YtkeejkpeniinkaaGreatDoor
open Go.ChangeShapes Go.WideShapes Go.ChangeAt Go.RowKit
open Go.ChangeMaps (open_string shut_string)
namespace LawParseConstraint

/-- A start for the witness: the door's own heap, and the library's great table laid as its constant says. -/
noncomputable def start (os : Os) : World :=
  { World.doorLaid Tryz.prog 4000 os with heap := (World.doorLaid Tryz.prog 4000 os).heap.modify 2 fun
      | .cells _ t frozen => .cells (Go.Pinned.utf8FirstZ.map fun n : Nat => Value.int .u8 (n : Int)).toArray t frozen
      | o => o }

/-- What the row's list says of the variables. -/
theorem env {W : World} (h : laidMetH Tryz.prog Rows.fnExactParseConstraintRow.laid W) : ParseI.Env W := by
  have plain : ∀ n, laidMet Tryz.prog (Rows.fnExactParseConstraintRow.laid.filter fun x => x.1 == n) W := fun n => by
    have h1 := laidMetH.filter (fun x => x.1 == n) h
    rw [MakeChecks.laidMetH_plain _ _ _ (List.all_eq_true.2 fun x hx => List.all_eq_true.1 (show (Rows.fnExactParseConstraintRow.laid.all fun x => x.2.handleName?.isNone) = true by kernel_rfl) x (List.mem_filter.1 hx).1)] at h1
    exact h1
  exact ⟨Lib.tabIs_of_head (P := Tryz.prog) (rest := []) (g := 4) (t := 158) (e := 126) (n := 20) (by kernel_rfl) (by kernel_rfl) Tryz.underlying158 Tryz.underlying126 (by kernel_rfl) (by kernel_rfl) (plain "internal/strconv.uint64pow10"),
    Frame.laid_iface (P := Tryz.prog) (r := []) (g := 5) (ti := 103) (plain "strconv.ErrSyntax") (by kernel_rfl) (by kernel_rfl) Tryz.underlying103,
    Frame.laid_iface (P := Tryz.prog) (r := []) (g := 6) (ti := 103) (plain "strconv.ErrRange") (by kernel_rfl) (by kernel_rfl) Tryz.underlying103,
    Frame.laid_iface (P := Tryz.prog) (r := []) (g := 0) (ti := 103) (plain "loop.example/g00515/impl.errMalformed") (by kernel_rfl) (by kernel_rfl) Tryz.underlying103⟩

theorem small (ok : Bool) (ss : List ByteArray) (l : List UInt8) : ((TextM.parseL ok ss l).getD (0, [])).2.length ≤ 8 := by
  cases h : TextM.parseL ok ss l with
  | none => simp
  | some p =>
    have := (TextM.parse_some h).2.2.2
    simp only [Option.getD_some]
    omega
theorem small2 (ok : Bool) (ss : List ByteArray) (l : List UInt8) : ((CutI.parseC ok ss l).getD (0, [])).2.length ≤ 8 := by
  unfold CutI.parseC
  split
  · exact small _ _ _
  · simp
open RowK LinM
set_option maxHeartbeats 4000000 in
set_option maxRecDepth 100000 in
theorem walk (s : ByteArray) (An : Option Addr) (cn : Nat) (names : List ByteArray) (w0 : World) (hr : StrK.SRow w0 An names) (hlen : names.length ≤ 9223372036854775807) (hsn : ∀ x ∈ names, x.size ≤ 9223372036854775807) (henv : CutI.Env w0) :
    Calls Tryz.prog 5 #[.string s, .slice An names.length cn] w0 fun e w' => e = .returned (.bool true) ∧ Below w0.heap.size w0 w' := by
  by_cases hsz : s.size ≤ 1048576
  · have SZ2 := fun W (h : StrK.SRow W An names) => StrK.size An cn 1048576 names W h (by omega) hlen hsn
    unfold StrK.leftOf at SZ2
    by_cases hts : StrK.total names ≤ 1048576
    · simp only [if_pos hts] at SZ2
      have HS2 := Lib.hid SZ2
      have hnn : names.length ≤ 1048576 := by unfold StrK.total at hts; omega
      have SP := Lib.hid (fun B W (h : StrK.SRow W B names) => ParseS.cons s B names.length names W h hsz (by omega) (Nat.le_refl _) hsn)
      have IM := Lib.hid (fun B W (h : StrK.SRow W B names) he => CutI.cons s B names.length names W h hsz (by omega) hsn he)
      unfold LinI.GaveO at SP IM
      have hT := small2 (TextI.okB names) names s.data.toList
      generalize (CutI.parseC (TextI.okB names) names s.data.toList).getD (0, []) = T at *
      generalize (CutI.parseC (TextI.okB names) names s.data.toList).isSome = q at *
      have hnn : names.length ≤ 1000000000 := by omega
      clear SZ2 hlen hsn
      have B0 := Lib.hid (Below.refl w0.heap.size w0)
      go_enter Tryz.func5, Tryz.ntmps5
      go_wp2_with fail
      refine (Calls.mono (HS2.out _ (hr.below B0.out))) ?_
      rintro e w1 ⟨rfl, b1⟩
      have hs1 : w0.heap.size ≤ w1.heap.size := b1.size
      have d1 : Below w0.heap.size w0 w1 := (Below.refl w0.heap.size w0).trans (b1.mono (show w0.heap.size ≤ w0.heap.size by first | exact Nat.le_refl _ | (simp; done) | (simp; omega)))
      have B1 := Lib.hid (B0.out.trans (d1.mono B0.out.size))
      clear b1 d1
      go_wp2_with fail
      refine (Calls.mono (StrK.copy An cn names _ (hr.below B1.out) hnn)) ?_
      rintro e w2 ⟨Y0, rfl, rY0, fY0, b2, nY0⟩
      have hs2 : w1.heap.size ≤ w2.heap.size := b2.size
      have d2 : Below w1.heap.size w1 w2 := (Below.refl w1.heap.size w1).trans (b2.mono (show w1.heap.size ≤ w1.heap.size by first | exact Nat.le_refl _ | (simp; done) | (simp; omega)))
      have B2 := Lib.hid (B1.out.trans (d2.mono B1.out.size))
      clear b2 d2
      have RY0 := Lib.hid rY0
      clear rY0 fY0 nY0
      go_wp2_with fail
      refine (Calls.mono (SP.out Y0 _ RY0.out)) ?_
      rintro e w3 ⟨W, cw, rfl, rw, fw, b3⟩
      have Ow := Lib.hid (show IntK.Own (w2.heap.size) w3.heap.size w3 W T.2 from ⟨rw, fw⟩)
      have hs3 : w2.heap.size ≤ w3.heap.size := b3.size
      have d3 : Below w2.heap.size w2 w3 := (Below.refl w2.heap.size w2).trans (b3.mono (show w2.heap.size ≤ w2.heap.size by first | exact Nat.le_refl _ | (simp; done) | (simp; omega)))
      have B3 := Lib.hid (B2.out.trans (d3.mono B2.out.size))
      have RY0_3 := Lib.hid (RY0.out.below d3)
      clear RY0 b3 d3
      clear RY0_3
      go_wp2_with fail
      refine (Calls.mono (StrK.copy An cn names _ (hr.below (B3.out.trans (((Below.refl w3.heap.size w3).alloc (by first | (simp; done) | (simp; omega)) (Obj.cells #[Value.int .i64 T.1, Value.slice W T.2.length cw] 26)).mono B3.out.size))) hnn)) ?_
      rintro e w4 ⟨X1, rfl, rX1, fX1, b4, nX1⟩
      simp only [World.size_alloc] at nX1
      have KX1 := Lib.hid (show StrK.SR (w3.heap.size + 1) w4.heap.size w4 X1 names from ⟨rX1, fX1, Nat.le_refl _, fun a e => ⟨StrK.blk_ge nX1 a e, StrK.blk_lt rX1 a e⟩⟩)
      have hs4 : (w3.alloc (Obj.cells #[Value.int .i64 T.1, Value.slice W T.2.length cw] 26)).heap.size ≤ w4.heap.size := b4.size
      simp only [World.size_alloc] at hs4
      have d4 : Below w3.heap.size w3 w4 := ((Below.refl w3.heap.size w3).alloc (by first | (simp; done) | (simp; omega)) (Obj.cells #[Value.int .i64 T.1, Value.slice W T.2.length cw] 26)).trans (b4.mono (show w3.heap.size ≤ (w3.alloc (Obj.cells #[Value.int .i64 T.1, Value.slice W T.2.length cw] 26)).heap.size by first | exact Nat.le_refl _ | (simp; done) | (simp; omega)))
      have B4 := Lib.hid (B3.out.trans (d4.mono B3.out.size))
      have Ow_4 := Lib.hid (Ow.out.below d4)
      have Vw_4 := Lib.hid ((Lvar.new w3 #[Value.int .i64 T.1, Value.slice W T.2.length cw] 26).below b4)
      clear Ow b4 d4
      clear rX1 fX1 nX1
      have c_Vw_0 := Vw_4.out.cell 0 _ rfl
      have c_Vw_1 := Vw_4.out.cell 1 _ rfl
      have lt_Vw := Vw_4.out.lt
      go_wp2_with fail
      refine (Calls.mono (IM.out X1 _ KX1.out.1 (henv.below B4.out))) ?_
      rintro e w5 ⟨G, cg, rfl, rg, fg, b5⟩
      have Og := Lib.hid (show IntK.Own (w4.heap.size) w5.heap.size w5 G T.2 from ⟨rg, fg⟩)
      have hs5 : w4.heap.size ≤ w5.heap.size := b5.size
      have d5 : Below w4.heap.size w4 w5 := (Below.refl w4.heap.size w4).trans (b5.mono (show w4.heap.size ≤ w4.heap.size by first | exact Nat.le_refl _ | (simp; done) | (simp; omega)))
      have B5 := Lib.hid (B4.out.trans (d5.mono B4.out.size))
      have Ow_5 := Lib.hid (Ow_4.out.below d5)
      have Vw_5 := Lib.hid (Vw_4.out.below d5)
      have KX1_5 := Lib.hid (KX1.out.below d5)
      clear Ow_4 Vw_4 KX1 c_Vw_0 c_Vw_1 lt_Vw b5 d5
      have c_Vw_0 := Vw_5.out.cell 0 _ rfl
      have c_Vw_1 := Vw_5.out.cell 1 _ rfl
      have lt_Vw := Vw_5.out.lt
      go_wp2_with fail
      refine (Calls.mono (LinK.eq_same _ _ _ _ T.1 G W cg cw T.2 _ (Og.out.below ((Below.refl w5.heap.size w5).alloc (by first | (simp; done) | (simp; omega)) (Obj.cells #[Value.int .i64 T.1, Value.slice G T.2.length cg] 26))).1 (Ow_5.out.below ((Below.refl w5.heap.size w5).alloc (by first | (simp; done) | (simp; omega)) (Obj.cells #[Value.int .i64 T.1, Value.slice G T.2.length cg] 26))).1 (by omega))) ?_
      rintro e w6 ⟨rfl, b6⟩
      have hs6 : (w5.alloc (Obj.cells #[Value.int .i64 T.1, Value.slice G T.2.length cg] 26)).heap.size ≤ w6.heap.size := b6.size
      simp only [World.size_alloc] at hs6
      have d6 : Below w5.heap.size w5 w6 := ((Below.refl w5.heap.size w5).alloc (by first | (simp; done) | (simp; omega)) (Obj.cells #[Value.int .i64 T.1, Value.slice G T.2.length cg] 26)).trans (b6.mono (show w5.heap.size ≤ (w5.alloc (Obj.cells #[Value.int .i64 T.1, Value.slice G T.2.length cg] 26)).heap.size by first | exact Nat.le_refl _ | (simp; done) | (simp; omega)))
      have B6 := Lib.hid (B5.out.trans (d6.mono B5.out.size))
      have Ow_6 := Lib.hid (Ow_5.out.below d6)
      have Vw_6 := Lib.hid (Vw_5.out.below d6)
      have KX1_6 := Lib.hid (KX1_5.out.below d6)
      have Og_6 := Lib.hid (Og.out.below d6)
      have Vg_6 := Lib.hid ((Lvar.new w5 #[Value.int .i64 T.1, Value.slice G T.2.length cg] 26).below b6)
      clear Ow_5 Vw_5 KX1_5 Og c_Vw_0 c_Vw_1 lt_Vw b6 d6
      have c_Vw_0 := Vw_6.out.cell 0 _ rfl
      have c_Vw_1 := Vw_6.out.cell 1 _ rfl
      have lt_Vw := Vw_6.out.lt
      have c_Vg_0 := Vg_6.out.cell 0 _ rfl
      have c_Vg_1 := Vg_6.out.cell 1 _ rfl
      have lt_Vg := Vg_6.out.lt
      go_wp2_with fail
      refine (Calls.mono (StrK.copy An cn names _ (hr.below B6.out) hnn)) ?_
      rintro e w7 ⟨Y2, rfl, rY2, fY2, b7, nY2⟩
      have hs7 : w6.heap.size ≤ w7.heap.size := b7.size
      have d7 : Below w6.heap.size w6 w7 := (Below.refl w6.heap.size w6).trans (b7.mono (show w6.heap.size ≤ w6.heap.size by first | exact Nat.le_refl _ | (simp; done) | (simp; omega)))
      have B7 := Lib.hid (B6.out.trans (d7.mono B6.out.size))
      have Ow_7 := Lib.hid (Ow_6.out.below d7)
      have Vw_7 := Lib.hid (Vw_6.out.below d7)
      have KX1_7 := Lib.hid (KX1_6.out.below d7)
      have Og_7 := Lib.hid (Og_6.out.below d7)
      have Vg_7 := Lib.hid (Vg_6.out.below d7)
      clear Ow_6 Vw_6 KX1_6 Og_6 Vg_6 c_Vw_0 c_Vw_1 lt_Vw c_Vg_0 c_Vg_1 lt_Vg b7 d7
      have RY2 := Lib.hid rY2
      clear rY2 fY2 nY2
      have c_Vw_0 := Vw_7.out.cell 0 _ rfl
      have c_Vw_1 := Vw_7.out.cell 1 _ rfl
      have lt_Vw := Vw_7.out.lt
      have c_Vg_0 := Vg_7.out.cell 0 _ rfl
      have c_Vg_1 := Vg_7.out.cell 1 _ rfl
      have lt_Vg := Vg_7.out.lt
      go_wp2_with fail
      refine (Calls.mono (StrK.eq_same X1 Y2 names.length names.length names _ KX1_7.out.1 RY2.out (by omega))) ?_
      rintro e w8 ⟨rfl, b8⟩
      have hs8 : w7.heap.size ≤ w8.heap.size := b8.size
      have d8 : Below w7.heap.size w7 w8 := (Below.refl w7.heap.size w7).trans (b8.mono (show w7.heap.size ≤ w7.heap.size by first | exact Nat.le_refl _ | (simp; done) | (simp; omega)))
      have B8 := Lib.hid (B7.out.trans (d8.mono B7.out.size))
      have Ow_8 := Lib.hid (Ow_7.out.below d8)
      have Vw_8 := Lib.hid (Vw_7.out.below d8)
      have KX1_8 := Lib.hid (KX1_7.out.below d8)
      have Og_8 := Lib.hid (Og_7.out.below d8)
      have Vg_8 := Lib.hid (Vg_7.out.below d8)
      have RY2_8 := Lib.hid (RY2.out.below d8)
      clear Ow_7 Vw_7 KX1_7 Og_7 Vg_7 RY2 c_Vw_0 c_Vw_1 lt_Vw c_Vg_0 c_Vg_1 lt_Vg b8 d8
      clear RY2_8
      have c_Vw_0 := Vw_8.out.cell 0 _ rfl
      have c_Vw_1 := Vw_8.out.cell 1 _ rfl
      have lt_Vw := Vw_8.out.lt
      have c_Vg_0 := Vg_8.out.cell 0 _ rfl
      have c_Vg_1 := Vg_8.out.cell 1 _ rfl
      have lt_Vg := Vg_8.out.lt
      go_wp2_with fail
      refine (Calls.mono (StrK.markS (w3.heap.size + 1) w4.heap.size X1 names.length names _ KX1_8.out (by omega))) ?_
      rintro e w9 ⟨rfl, b9⟩
      have hs9 := b9.size
      have B9 := Lib.hid (below_mod B8.out b9 (by have := B8.out.size; omega) B8.out.size)
      have Ow_9 := Lib.hid (Ow_8.out.keep b9 (by omega))
      have Vw_9 := Lib.hid (Vw_8.out.keep b9 (by omega))
      have Og_9 := Lib.hid (Og_8.out.keep b9 (by omega))
      have Vg_9 := Lib.hid (Vg_8.out.keep b9 (by omega))
      clear Ow_8 Vw_8 Og_8 Vg_8 c_Vw_0 c_Vw_1 lt_Vw c_Vg_0 c_Vg_1 lt_Vg b9
      clear KX1_8
      have c_Vw_0 := Vw_9.out.cell 0 _ rfl
      have c_Vw_1 := Vw_9.out.cell 1 _ rfl
      have lt_Vw := Vw_9.out.lt
      have c_Vg_0 := Vg_9.out.cell 0 _ rfl
      have c_Vg_1 := Vg_9.out.cell 1 _ rfl
      have lt_Vg := Vg_9.out.lt
      go_wp2_with fail
      refine (Calls.mono (LinK.eq_same _ _ _ _ T.1 G W cg cw T.2 _ Og_9.out.1 Ow_9.out.1 (by omega))) ?_
      rintro e w10 ⟨rfl, b10⟩
      have hs10 : w9.heap.size ≤ w10.heap.size := b10.size
      have d10 : Below w9.heap.size w9 w10 := (Below.refl w9.heap.size w9).trans (b10.mono (show w9.heap.size ≤ w9.heap.size by first | exact Nat.le_refl _ | (simp; done) | (simp; omega)))
      have B10 := Lib.hid (B9.out.trans (d10.mono B9.out.size))
      have Ow_10 := Lib.hid (Ow_9.out.below d10)
      have Vw_10 := Lib.hid (Vw_9.out.below d10)
      have Og_10 := Lib.hid (Og_9.out.below d10)
      have Vg_10 := Lib.hid (Vg_9.out.below d10)
      clear Ow_9 Vw_9 Og_9 Vg_9 c_Vw_0 c_Vw_1 lt_Vw c_Vg_0 c_Vg_1 lt_Vg b10 d10
      have c_Vw_0 := Vw_10.out.cell 0 _ rfl
      have c_Vw_1 := Vw_10.out.cell 1 _ rfl
      have lt_Vw := Vw_10.out.lt
      have c_Vg_0 := Vg_10.out.cell 0 _ rfl
      have c_Vg_1 := Vg_10.out.cell 1 _ rfl
      have lt_Vg := Vg_10.out.lt
      go_wp2_with fail
      refine (Calls.mono (LinK.mark1 (w4.heap.size) w5.heap.size T.1 G cg T.2 _ Og_10.out (by omega))) ?_
      rintro e w11 ⟨rfl, rm, b11⟩
      have hs11 := b11.size
      have B11 := Lib.hid (below_mod B10.out b11 (by have := B10.out.size; omega) B10.out.size)
      have Ow_11 := Lib.hid (Ow_10.out.keep b11 (by omega))
      have Vw_11 := Lib.hid (Vw_10.out.keep b11 (by omega))
      have Vg_11 := Lib.hid (Vg_10.out.keep b11 (by omega))
      clear Ow_10 Vw_10 Vg_10 c_Vw_0 c_Vw_1 lt_Vw c_Vg_0 c_Vg_1 lt_Vg b11
      have Rg := Lib.hid rm
      clear rm Og_10
      have c_Vw_0 := Vw_11.out.cell 0 _ rfl
      have c_Vw_1 := Vw_11.out.cell 1 _ rfl
      have lt_Vw := Vw_11.out.lt
      have c_Vg_0 := Vg_11.out.cell 0 _ rfl
      have c_Vg_1 := Vg_11.out.cell 1 _ rfl
      have lt_Vg := Vg_11.out.lt
      go_wp2_with fail
      refine (Calls.mono (LinK.held1 _ _ T.1 G cg T.2.length _ Rg.out (by omega))) ?_
      rintro e w12 ⟨rfl, b12⟩
      have hs12 : w11.heap.size ≤ w12.heap.size := b12.size
      have d12 : Below w11.heap.size w11 w12 := (Below.refl w11.heap.size w11).trans (b12.mono (show w11.heap.size ≤ w11.heap.size by first | exact Nat.le_refl _ | (simp; done) | (simp; omega)))
      have B12 := Lib.hid (B11.out.trans (d12.mono B11.out.size))
      have Ow_12 := Lib.hid (Ow_11.out.below d12)
      have Vw_12 := Lib.hid (Vw_11.out.below d12)
      have Vg_12 := Lib.hid (Vg_11.out.below d12)
      have Rg_12 := Lib.hid (Rg.out.below d12)
      clear Ow_11 Vw_11 Vg_11 Rg c_Vw_0 c_Vw_1 lt_Vw c_Vg_0 c_Vg_1 lt_Vg b12 d12
      have c_Vw_0 := Vw_12.out.cell 0 _ rfl
      have c_Vw_1 := Vw_12.out.cell 1 _ rfl
      have lt_Vw := Vw_12.out.lt
      have c_Vg_0 := Vg_12.out.cell 0 _ rfl
      have c_Vg_1 := Vg_12.out.cell 1 _ rfl
      have lt_Vg := Vg_12.out.lt
      go_wp2_with fail
      refine (Calls.mono (StrK.copy An cn names _ (hr.below B12.out) hnn)) ?_
      rintro e w13 ⟨Y3, rfl, rY3, fY3, b13, nY3⟩
      have hs13 : w12.heap.size ≤ w13.heap.size := b13.size
      have d13 : Below w12.heap.size w12 w13 := (Below.refl w12.heap.size w12).trans (b13.mono (show w12.heap.size ≤ w12.heap.size by first | exact Nat.le_refl _ | (simp; done) | (simp; omega)))
      have B13 := Lib.hid (B12.out.trans (d13.mono B12.out.size))
      have Ow_13 := Lib.hid (Ow_12.out.below d13)
      have Vw_13 := Lib.hid (Vw_12.out.below d13)
      have Vg_13 := Lib.hid (Vg_12.out.below d13)
      have Rg_13 := Lib.hid (Rg_12.out.below d13)
      clear Ow_12 Vw_12 Vg_12 Rg_12 c_Vw_0 c_Vw_1 lt_Vw c_Vg_0 c_Vg_1 lt_Vg b13 d13
      have RY3 := Lib.hid rY3
      clear rY3 fY3 nY3
      have c_Vw_0 := Vw_13.out.cell 0 _ rfl
      have c_Vw_1 := Vw_13.out.cell 1 _ rfl
      have lt_Vw := Vw_13.out.lt
      have c_Vg_0 := Vg_13.out.cell 0 _ rfl
      have c_Vg_1 := Vg_13.out.cell 1 _ rfl
      have lt_Vg := Vg_13.out.lt
      go_wp2_with fail
      refine (Calls.mono (IM.out Y3 _ RY3.out (henv.below B13.out))) ?_
      rintro e w14 ⟨H, ch, rfl, rh, fh, b14⟩
      have Oh := Lib.hid (show IntK.Own (w13.heap.size) w14.heap.size w14 H T.2 from ⟨rh, fh⟩)
      have hs14 : w13.heap.size ≤ w14.heap.size := b14.size
      have d14 : Below w13.heap.size w13 w14 := (Below.refl w13.heap.size w13).trans (b14.mono (show w13.heap.size ≤ w13.heap.size by first | exact Nat.le_refl _ | (simp; done) | (simp; omega)))
      have B14 := Lib.hid (B13.out.trans (d14.mono B13.out.size))
      have Ow_14 := Lib.hid (Ow_13.out.below d14)
      have Vw_14 := Lib.hid (Vw_13.out.below d14)
      have Vg_14 := Lib.hid (Vg_13.out.below d14)
      have Rg_14 := Lib.hid (Rg_13.out.below d14)
      have RY3_14 := Lib.hid (RY3.out.below d14)
      clear Ow_13 Vw_13 Vg_13 Rg_13 RY3 c_Vw_0 c_Vw_1 lt_Vw c_Vg_0 c_Vg_1 lt_Vg b14 d14
      clear RY3_14
      have c_Vw_0 := Vw_14.out.cell 0 _ rfl
      have c_Vw_1 := Vw_14.out.cell 1 _ rfl
      have lt_Vw := Vw_14.out.lt
      have c_Vg_0 := Vg_14.out.cell 0 _ rfl
      have c_Vg_1 := Vg_14.out.cell 1 _ rfl
      have lt_Vg := Vg_14.out.lt
      go_wp2_with fail
      refine (Calls.mono (LinK.eq_same _ _ _ _ T.1 H W ch cw T.2 _ (Oh.out.below ((Below.refl w14.heap.size w14).alloc (by first | (simp; done) | (simp; omega)) (Obj.cells #[Value.int .i64 T.1, Value.slice H T.2.length ch] 26))).1 (Ow_14.out.below ((Below.refl w14.heap.size w14).alloc (by first | (simp; done) | (simp; omega)) (Obj.cells #[Value.int .i64 T.1, Value.slice H T.2.length ch] 26))).1 (by omega))) ?_
      rintro e w15 ⟨rfl, b15⟩
      have hs15 : (w14.alloc (Obj.cells #[Value.int .i64 T.1, Value.slice H T.2.length ch] 26)).heap.size ≤ w15.heap.size := b15.size
      simp only [World.size_alloc] at hs15
      have d15 : Below w14.heap.size w14 w15 := ((Below.refl w14.heap.size w14).alloc (by first | (simp; done) | (simp; omega)) (Obj.cells #[Value.int .i64 T.1, Value.slice H T.2.length ch] 26)).trans (b15.mono (show w14.heap.size ≤ (w14.alloc (Obj.cells #[Value.int .i64 T.1, Value.slice H T.2.length ch] 26)).heap.size by first | exact Nat.le_refl _ | (simp; done) | (simp; omega)))
      have B15 := Lib.hid (B14.out.trans (d15.mono B14.out.size))
      have Ow_15 := Lib.hid (Ow_14.out.below d15)
      have Vw_15 := Lib.hid (Vw_14.out.below d15)
      have Vg_15 := Lib.hid (Vg_14.out.below d15)
      have Rg_15 := Lib.hid (Rg_14.out.below d15)
      have Oh_15 := Lib.hid (Oh.out.below d15)
      have Vh_15 := Lib.hid ((Lvar.new w14 #[Value.int .i64 T.1, Value.slice H T.2.length ch] 26).below b15)
      clear Ow_14 Vw_14 Vg_14 Rg_14 Oh c_Vw_0 c_Vw_1 lt_Vw c_Vg_0 c_Vg_1 lt_Vg b15 d15
      have c_Vw_0 := Vw_15.out.cell 0 _ rfl
      have c_Vw_1 := Vw_15.out.cell 1 _ rfl
      have lt_Vw := Vw_15.out.lt
      have c_Vg_0 := Vg_15.out.cell 0 _ rfl
      have c_Vg_1 := Vg_15.out.cell 1 _ rfl
      have lt_Vg := Vg_15.out.lt
      have c_Vh_0 := Vh_15.out.cell 0 _ rfl
      have c_Vh_1 := Vh_15.out.cell 1 _ rfl
      have lt_Vh := Vh_15.out.lt
      go_wp2_with fail
      refine (Calls.mono (LinK.held1 _ _ T.1 G cg T.2.length _ Rg_15.out (by omega))) ?_
      rintro e w16 ⟨rfl, b16⟩
      have hs16 : w15.heap.size ≤ w16.heap.size := b16.size
      have d16 : Below w15.heap.size w15 w16 := (Below.refl w15.heap.size w15).trans (b16.mono (show w15.heap.size ≤ w15.heap.size by first | exact Nat.le_refl _ | (simp; done) | (simp; omega)))
      have B16 := Lib.hid (B15.out.trans (d16.mono B15.out.size))
      have Ow_16 := Lib.hid (Ow_15.out.below d16)
      have Vw_16 := Lib.hid (Vw_15.out.below d16)
      have Vg_16 := Lib.hid (Vg_15.out.below d16)
      have Rg_16 := Lib.hid (Rg_15.out.below d16)
      have Oh_16 := Lib.hid (Oh_15.out.below d16)
      have Vh_16 := Lib.hid (Vh_15.out.below d16)
      clear Ow_15 Vw_15 Vg_15 Rg_15 Oh_15 Vh_15 c_Vw_0 c_Vw_1 lt_Vw c_Vg_0 c_Vg_1 lt_Vg c_Vh_0 c_Vh_1 lt_Vh b16 d16
      have c_Vw_0 := Vw_16.out.cell 0 _ rfl
      have c_Vw_1 := Vw_16.out.cell 1 _ rfl
      have lt_Vw := Vw_16.out.lt
      have c_Vg_0 := Vg_16.out.cell 0 _ rfl
      have c_Vg_1 := Vg_16.out.cell 1 _ rfl
      have lt_Vg := Vg_16.out.lt
      have c_Vh_0 := Vh_16.out.cell 0 _ rfl
      have c_Vh_1 := Vh_16.out.cell 1 _ rfl
      have lt_Vh := Vh_16.out.lt
      go_wp2
      go_ret
      exact ⟨rfl, B16.out⟩
    · simp only [if_neg hts] at SZ2
      have HS2 := Lib.hid SZ2
      clear SZ2 hlen hsn
      go_enter Tryz.func5, Tryz.ntmps5
      go_wp2_with fail
      refine (HS2.out _ hr).mono ?_
      rintro e w1 ⟨rfl, b1⟩
      go_wp2
      go_ret
      exact ⟨rfl, b1⟩
  · go_enter Tryz.func5, Tryz.ntmps5
    go_wp2
    go_ret
    exact ⟨rfl, Below.refl _ _⟩

theorem laid_met (os : Os) : laidMetH Tryz.prog Rows.fnExactParseConstraintRow.laid ((start os).forCall (fun _ _ => 0) ⟨#[], #[.string .empty, .slice none 0 0], []⟩).memory :=
  laidMetH_of_parts3 (fuel := 8) (laidMet_of_run' 8 (by kernel_rfl) (by kernel_rfl)) (by kernel_rfl) (by kernel_rfl)
set_option maxRecDepth 100000 in
theorem lifted (os : Os) (started : os.Started) (H : Type) (enc : TypeId × Value → H) (F : Stop.Interp) :
    ReturnsInHanded {} Tryz.checked os 5 .any ((OpenSpec.ofChange Rows.fnExactParseConstraintSpec).preRow enc Tryz.prog Tryz.f5 Rows.fnExactParseConstraintRow.domain false Rows.fnExactParseConstraintRow.laid) (((OpenSpec.ofChange Rows.fnExactParseConstraintSpec).at F).post enc Tryz.prog Tryz.f5 false true false false) := by
  have hx : (DataW.whole enc Tryz.prog ((start os).forCall (fun _ _ => 0) ⟨#[], #[.string .empty, .slice none 0 0], []⟩).memory Tryz.f5.params.toList Rows.fnExactParseConstraintSpec.vars false #[Value.string .empty, Value.slice none 0 0].toList 8).isSome = true := by kernel_rfl
  obtain ⟨x, hx⟩ := Option.isSome_iff_exists.1 hx
  refine returnsInHanded_of_row (C := Tryz.checked) (s := OpenSpec.ofChange Rows.fnExactParseConstraintSpec) Frame.own started (by kernel_rfl) Tryz.func5
    (witness_row_atRef (enc := enc) (C := Tryz.checked) false (start os) #[.string .empty, .slice none 0 0] rfl (by kernel_rfl) (by kernel_rfl) (by kernel_rfl)
      (OpenSpec.preRow_of_cond 8 hx rfl (fun k hk => by cases hk) (by kernel_rfl) (laid_met os))) ?_
  intro W base args ds gs before hval0 hW _ _ _ hL hsh _
  have hW' := hW
  obtain ⟨p, q, hA0, hV, rfl, hfz, hnd⟩ := hW
  have hval : ∀ (j : Nat) t v, Tryz.f5.params[j]? = some t → args[j]? = some v → Value.okWide Tryz.prog W .any base t v := hval0
  have hA : DataW.TrodAll enc Tryz.prog W 0 (fun _ => true) true Tryz.f5.params.toList args.toList ds p := hA0
  rw [Tryz.params5] at hA hval
  obtain ⟨v0, v1, d0, d1, p0, p1, rfl, rfl, rfl, h0, h1⟩ := trodAll_two hA
  have hlt := fun x hx => hW'.lt x hx
  obtain ⟨g1, rfl⟩ := Frame.vars_one hV
  obtain ⟨s, rfl, rfl, rfl, ws⟩ := open_string Tryz.underlying9 (hval 0 9 v0 rfl rfl) h0
  obtain ⟨aq, nq, cq, rfl⟩ := okWide_slice Tryz.underlying27 (hval 1 27 v1 rfl rfl)
  obtain ⟨q, rfl, hrq, hlq, hsq⟩ := Frame.open_strs (W := W) (by kernel_rfl) Tryz.underlying27 Tryz.underlying9 h1 (fun x hx => hlt x (by simp [hx]))
  refine (walk s aq cq q W hrq hlq hsq (CutI.Env.of_shaped hsh (env hL))).mono fun e W' ⟨he, hb⟩ => ?_
  subst he
  exact ⟨_, rfl, Frame.law_post (tb := 4) Frame.laidOut (by kernel_rfl) (by kernel_rfl) (by kernel_rfl) Tryz.underlying4 hW' rfl hb⟩

theorem said : Rows.FnExactParseConstraintSaid :=
  OpenClaim.holds_of_cond 5 Tryz.f5 rfl rfl rfl rfl rfl rfl rfl ⟨rfl, rfl, rfl, rfl, rfl⟩ rfl rfl rfl rfl rfl (by kernel_rfl) Tryz.func5 (by kernel_rfl)
    (of_decide_eq_true (by kernel_rfl)) (by unfold Func.isWrapper; first | (rw [if_pos (by decide +kernel)]; kernel_rfl) | (rw [if_neg (by decide +kernel)]; exact ⟨rfl, rfl⟩))
    (fun os started H enc _ F => by rw [OpenClaim.pre_eq_preRow]; exact lifted os started H enc F)

theorem plain (f : FuncId) (fn : Func) (hf : Tryz.pinned.checked.prog.funcNamed "loop.example/g00515/laws.FnExactParseConstraint" = some f) (hfn : Tryz.pinned.checked.prog.funcs[f]? = some fn) :
    true = Tryz.pinned.checked.prog.looks [] ∧ ∀ (j : Nat) t, fn.params[j]? = some t → Tryz.pinned.checked.prog.wantsStandIn t = false := by
  obtain rfl : f = 5 := Option.some.inj ((show Tryz.prog.funcNamed "loop.example/g00515/laws.FnExactParseConstraint" = some 5 by kernel_rfl).symm.trans hf) |>.symm
  obtain rfl : fn = Tryz.f5 := (Option.some.inj (Tryz.func5.symm.trans hfn)).symm
  refine ⟨by kernel_rfl, fun j t ht => ?_⟩
  rw [Tryz.params5] at ht
  have hm : t ∈ [9, 27] := by simpa using Array.mem_of_getElem? ht
  have hall : ([9, 27].all fun u => !Tryz.prog.wantsStandIn u) = true := by kernel_rfl
  exact (show Tryz.prog.wantsStandIn t = false by simpa using List.all_eq_true.1 hall t hm)

theorem card : Rows.FnExactParseConstraintCardSaid :=
  Claim7.holds_tied_plain_at .later [] _ _ _ _ said (fun _ h => by cases h) (by kernel_rfl) (fun _ h => by cases h) fnExactParseConstraint_row_tie rfl ⟨rfl, rfl⟩ (by kernel_rfl) rfl plain (by kernel_rfl)
end LawParseConstraint
end Go.Proofs.YtkeejkpeniinkaaGreatDoor
