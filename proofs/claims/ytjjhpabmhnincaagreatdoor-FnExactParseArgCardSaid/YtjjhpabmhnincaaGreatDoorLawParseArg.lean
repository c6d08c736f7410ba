import Derived.Test.YtjjhpabmhnincaaGreatDoorCards
import Derived.Test.YtjjhpabmhnincaaGreatDoorTie
import Derived.Test.YtjjhpabmhnincaaGreatDoorFrame
import Derived.Test.YtjjhpabmhnincaaGreatDoorFrameArg
import Derived.Test.YtjjhpabmhnincaaGreatDoorArgOwn
import Derived.Test.YtjjhpabmhnincaaGreatDoorArgParseAS
import Derived.Deep.RegionHeld3
import Derived.SliceStrings
import Derived.LaidMore
import Derived.LaidSub
import Derived.MakeChecks
import Derived.Deep.DeepWitnessRowRef
import Derived.SevenTiedAt
/- At every text, impl.ParseArg answers as its model and answers in new memory: the law FnExactParseArg returns true. Its condition: the listed variables hold what their initialisers lay. -/
namespace Go.Proofs.YtjjhpabmhnincaaGreatDoor
open Go.ChangeShapes Go.WideShapes Go.ChangeAt Go.RowKit
open Go.ChangeMaps (open_string shut_string)
namespace LawParseArg

/-- A start for the witness: the door's own heap, and the library's great table laid as its constant says. -/
noncomputable def start (os : Os) : World :=
  { World.doorLaid Tryz.prog 4000 os with heap := (World.doorLaid Tryz.prog 4000 os).heap.modify 2 fun
      | .cells _ t frozen => .cells (Go.Pinned.utf8FirstZ.map fun n : Nat => Value.int .u8 (n : Int)).toArray t frozen
      | o => o }

/-- What the row's list says of the variables. -/
theorem env {W : World} (h : laidMetH Tryz.prog Rows.fnExactParseArgRow.laid W) : ParseI.Env W := by
  have plain : ∀ n, laidMet Tryz.prog (Rows.fnExactParseArgRow.laid.filter fun x => x.1 == n) W := fun n => by
    have h1 := laidMetH.filter (fun x => x.1 == n) h
    rw [MakeChecks.laidMetH_plain _ _ _ (List.all_eq_true.2 fun x hx => List.all_eq_true.1 (show (Rows.fnExactParseArgRow.laid.all fun x => x.2.handleName?.isNone) = true by kernel_rfl) x (List.mem_filter.1 hx).1)] at h1
    exact h1
  exact ⟨Lib.tabIs_of_head (P := Tryz.prog) (rest := []) (g := 6) (t := 197) (e := 148) (n := 20) (by kernel_rfl) (by kernel_rfl) Tryz.underlying197 Tryz.underlying148 (by kernel_rfl) (by kernel_rfl) (plain "internal/strconv.uint64pow10"),
    Frame.laid_iface (P := Tryz.prog) (r := []) (g := 4) (ti := 154) (plain "strconv.ErrSyntax") (by kernel_rfl) (by kernel_rfl) Tryz.underlying154,
    Frame.laid_iface (P := Tryz.prog) (r := []) (g := 5) (ti := 154) (plain "strconv.ErrRange") (by kernel_rfl) (by kernel_rfl) Tryz.underlying154,
    Frame.laid_iface (P := Tryz.prog) (r := []) (g := 1) (ti := 154) (plain "loop.example/g00515/impl.errMalformed") (by kernel_rfl) (by kernel_rfl) Tryz.underlying154⟩

theorem small (l : List UInt8) : Mem.argsSize ((ArgM.parseA l).getD (false, [], ByteArray.empty)).2.1 ((ArgM.parseA l).getD (false, [], ByteArray.empty)).2.2 ≤ 1000000000 := by
  cases h : ArgM.parseA l with
  | none => decide
  | some a =>
    obtain ⟨p, hs, b⟩ := a
    obtain ⟨h1, _, _⟩ := ArgM.parseA_is h
    simp only [Option.getD_some]
    have hh : (∀ x ∈ hs, ArgM.sumV x = true) ∧ hs.length ≤ 3 ∧ b.size ≤ 8 := by
      cases p with
      | true =>
        obtain ⟨a1, a2, a3⟩ := ArgM.argV_list.1 h1
        refine ⟨a1, a2, ?_⟩
        simp only [ArgM.baseV, Bool.or_eq_true, decide_eq_true_eq] at a3
        rcases a3 with h | h
        · omega
        · exact (ArgM.valid_shape (ArgM.list_valid h)).2
      | false =>
        obtain ⟨k, rfl, hk, hb⟩ := ArgM.argV_int.1 h1
        exact ⟨fun x hx => by rw [List.mem_singleton.1 hx]; exact hk, by simp, by omega⟩
    obtain ⟨a1, a2, a3⟩ := hh
    have gen : ∀ xs : List (Int × ByteArray), (∀ t ∈ xs, t.2.size ≤ 8) → Mem.szs Mem.tsz xs ≤ 8 * xs.length := by
      intro xs
      induction xs with
      | nil => intro _; exact Nat.le_refl _
      | cons x xs ih =>
        intro hx
        have h4 := ih (fun t ht => hx t (List.mem_cons_of_mem _ ht))
        have h5 := hx x List.mem_cons_self
        rw [Mem.szs_cons, List.length_cons]
        unfold Mem.tsz at h4 ⊢
        omega
    have gen2 : ∀ ys : List Mem.SumT, (∀ x ∈ ys, ArgM.sumV x = true) → Mem.szs Mem.ssz ys ≤ 100 * ys.length := by
      intro ys
      induction ys with
      | nil => intro _; exact Nat.le_refl _
      | cons y ys ih =>
        intro hx
        have h4 := ih (fun t ht => hx t (List.mem_cons_of_mem _ ht))
        obtain ⟨_, h5, h6, _⟩ := ArgM.sumV_iff.1 (hx y List.mem_cons_self)
        have h7 := gen y.2 (fun t ht => (ArgM.valid_shape (ArgM.intName_valid (ArgM.termV_iff.1 (h6 t ht)).2.2)).2)
        rw [Mem.szs_cons, List.length_cons]
        unfold Mem.ssz Mem.termsSize at h4 ⊢
        omega
    have h8 := gen2 hs a1
    unfold Mem.argsSize Mem.sumsSize
    omega
open RowK Mem
set_option maxHeartbeats 4000000 in
set_option maxRecDepth 100000 in
theorem walk (s : ByteArray) (w0 : World) (henv : CutI.Env w0) :
    Calls Tryz.prog 5 #[.string s] w0 fun e w' => e = .returned (.bool true) ∧ Below w0.heap.size w0 w' := by
  by_cases hsz : s.size ≤ 1048576
  · have SP := Lib.hid (fun W => ArgP.parseArg s W hsz)
    have IM := Lib.hid (fun W (h : CutI.Env W) => ArgI.parseArg s W hsz h)
    unfold ArgI.GaveArgO at SP IM
    have hT := small s.data.toList
    generalize (ArgM.parseA s.data.toList).getD (false, [], ByteArray.empty) = T at *
    generalize (ArgM.parseA s.data.toList).isSome = q at *
    have hneg : decide ((1 : Int) + ((szs nSum T.2.1 : Nat) : Int) < 0) = false := decide_eq_false (by omega)
    have B0 := Lib.hid (Below.refl w0.heap.size w0)
    go_enter Tryz.func5, Tryz.ntmps5
    go_wp2_with fail
    refine (Calls.mono (SP.out _)) ?_
    rintro e w1 ⟨W, cw, rfl, ow, b1⟩
    have Ow := Lib.hid (show Mem.OwnS Mem.sum (w0.heap.size) w1.heap.size w1 W T.2.1.length cw T.2.1 from ow)
    have hs1 : w0.heap.size ≤ w1.heap.size := b1.size
    have d1 : Below w0.heap.size w0 w1 := (Below.refl w0.heap.size w0).trans (b1.mono (show w0.heap.size ≤ w0.heap.size by first | exact Nat.le_refl _ | (simp; done) | (simp; omega)))
    have B1 := Lib.hid (B0.out.trans (d1.mono B0.out.size))
    clear b1 d1
    clear ow
    go_wp2_with fail
    refine (Calls.mono (IM.out _ (henv.below (B1.out.trans (((Below.refl w1.heap.size w1).alloc (by first | (simp; done) | (simp; omega)) (Obj.cells #[Value.bool T.1, Value.slice W T.2.1.length cw, Value.string T.2.2] 26)).mono B1.out.size))))) ?_
    rintro e w2 ⟨G, cg, rfl, og, b2⟩
    simp only [World.size_alloc] at og
    have Og := Lib.hid (show Mem.OwnS Mem.sum (w1.heap.size + 1) w2.heap.size w2 G T.2.1.length cg T.2.1 from og)
    have hs2 : (w1.alloc (Obj.cells #[Value.bool T.1, Value.slice W T.2.1.length cw, Value.string T.2.2] 26)).heap.size ≤ w2.heap.size := b2.size
    simp only [World.size_alloc] at hs2
    have d2 : Below w1.heap.size w1 w2 := ((Below.refl w1.heap.size w1).alloc (by first | (simp; done) | (simp; omega)) (Obj.cells #[Value.bool T.1, Value.slice W T.2.1.length cw, Value.string T.2.2] 26)).trans (b2.mono (show w1.heap.size ≤ (w1.alloc (Obj.cells #[Value.bool T.1, Value.slice W T.2.1.length cw, Value.string T.2.2] 26)).heap.size by first | exact Nat.le_refl _ | (simp; done) | (simp; omega)))
    have B2 := Lib.hid (B1.out.trans (d2.mono B1.out.size))
    have Ow_2 := Lib.hid (Ow.out.below d2)
    have Vw_2 := Lib.hid ((Lvar.new w1 #[Value.bool T.1, Value.slice W T.2.1.length cw, Value.string T.2.2] 26).below b2)
    clear Ow b2 d2
    clear og
    have c_Vw_0 := Vw_2.out.cell 0 _ rfl
    have c_Vw_1 := Vw_2.out.cell 1 _ rfl
    have c_Vw_2 := Vw_2.out.cell 2 _ rfl
    have lt_Vw := Vw_2.out.lt
    go_wp2_with fail
    refine (Calls.mono (ArgK.eq_same T.1 T.2.2 G W cg cw T.2.1 _ (Og.out.below ((Below.refl w2.heap.size w2).alloc (by first | (simp; done) | (simp; omega)) (Obj.cells #[Value.bool T.1, Value.slice G T.2.1.length cg, Value.string T.2.2] 26))).arg (Ow_2.out.below ((Below.refl w2.heap.size w2).alloc (by first | (simp; done) | (simp; omega)) (Obj.cells #[Value.bool T.1, Value.slice G T.2.1.length cg, Value.string T.2.2] 26))).arg hT)) ?_
    rintro e w3 ⟨rfl, b3⟩
    have hs3 : (w2.alloc (Obj.cells #[Value.bool T.1, Value.slice G T.2.1.length cg, Value.string T.2.2] 26)).heap.size ≤ w3.heap.size := b3.size
    simp only [World.size_alloc] at hs3
    have d3 : Below w2.heap.size w2 w3 := ((Below.refl w2.heap.size w2).alloc (by first | (simp; done) | (simp; omega)) (Obj.cells #[Value.bool T.1, Value.slice G T.2.1.length cg, Value.string T.2.2] 26)).trans (b3.mono (show w2.heap.size ≤ (w2.alloc (Obj.cells #[Value.bool T.1, Value.slice G T.2.1.length cg, Value.string T.2.2] 26)).heap.size by first | exact Nat.le_refl _ | (simp; done) | (simp; omega)))
    have B3 := Lib.hid (B2.out.trans (d3.mono B2.out.size))
    have Ow_3 := Lib.hid (Ow_2.out.below d3)
    have Vw_3 := Lib.hid (Vw_2.out.below d3)
    have Og_3 := Lib.hid (Og.out.below d3)
    have Vg_3 := Lib.hid ((Lvar.new w2 #[Value.bool T.1, Value.slice G T.2.1.length cg, Value.string T.2.2] 26).below b3)
    clear Ow_2 Vw_2 Og c_Vw_0 c_Vw_1 c_Vw_2 lt_Vw b3 d3
    have c_Vw_0 := Vw_3.out.cell 0 _ rfl
    have c_Vw_1 := Vw_3.out.cell 1 _ rfl
    have c_Vw_2 := Vw_3.out.cell 2 _ rfl
    have lt_Vw := Vw_3.out.lt
    have c_Vg_0 := Vg_3.out.cell 0 _ rfl
    have c_Vg_1 := Vg_3.out.cell 1 _ rfl
    have c_Vg_2 := Vg_3.out.cell 2 _ rfl
    have lt_Vg := Vg_3.out.lt
    go_wp2_with fail
    refine (Calls.mono (ArgK.mark (w1.heap.size + 1) w2.heap.size T.1 T.2.2 G cg 1 T.2.1 _ Og_3.out hT (by omega) (by omega))) ?_
    rintro e w4 ⟨rfl, rm, b4⟩
    have hs4 := b4.size
    have B4 := Lib.hid (below_mod B3.out b4 (by have := B3.out.size; omega) B3.out.size)
    have Ow_4 := Lib.hid (Ow_3.out.keep b4 (by omega))
    have Vw_4 := Lib.hid (Vw_3.out.keep b4 (by omega))
    have Vg_4 := Lib.hid (Vg_3.out.keep b4 (by omega))
    clear Ow_3 Vw_3 Vg_3 c_Vw_0 c_Vw_1 c_Vw_2 lt_Vw c_Vg_0 c_Vg_1 c_Vg_2 lt_Vg b4
    have Og := Lib.hid rm
    clear rm Og_3
    have c_Vw_0 := Vw_4.out.cell 0 _ rfl
    have c_Vw_1 := Vw_4.out.cell 1 _ rfl
    have c_Vw_2 := Vw_4.out.cell 2 _ rfl
    have lt_Vw := Vw_4.out.lt
    have c_Vg_0 := Vg_4.out.cell 0 _ rfl
    have c_Vg_1 := Vg_4.out.cell 1 _ rfl
    have c_Vg_2 := Vg_4.out.cell 2 _ rfl
    have lt_Vg := Vg_4.out.lt
    go_wp2_with fail
    refine (Calls.mono (ArgK.held T.1 T.2.2 G cg 1 T.2.1 _ Og.out.arg hT (by omega) (by omega))) ?_
    rintro e w5 ⟨rfl, b5⟩
    have hs5 : w4.heap.size ≤ w5.heap.size := b5.size
    have d5 : Below w4.heap.size w4 w5 := (Below.refl w4.heap.size w4).trans (b5.mono (show w4.heap.size ≤ w4.heap.size by first | exact Nat.le_refl _ | (simp; done) | (simp; omega)))
    have B5 := Lib.hid (B4.out.trans (d5.mono B4.out.size))
    have Ow_5 := Lib.hid (Ow_4.out.below d5)
    have Vw_5 := Lib.hid (Vw_4.out.below d5)
    have Vg_5 := Lib.hid (Vg_4.out.below d5)
    have Og_5 := Lib.hid (Og.out.below d5)
    clear Ow_4 Vw_4 Vg_4 Og c_Vw_0 c_Vw_1 c_Vw_2 lt_Vw c_Vg_0 c_Vg_1 c_Vg_2 lt_Vg b5 d5
    have c_Vw_0 := Vw_5.out.cell 0 _ rfl
    have c_Vw_1 := Vw_5.out.cell 1 _ rfl
    have c_Vw_2 := Vw_5.out.cell 2 _ rfl
    have lt_Vw := Vw_5.out.lt
    have c_Vg_0 := Vg_5.out.cell 0 _ rfl
    have c_Vg_1 := Vg_5.out.cell 1 _ rfl
    have c_Vg_2 := Vg_5.out.cell 2 _ rfl
    have lt_Vg := Vg_5.out.lt
    go_wp2_with fail
    refine (Calls.mono (IM.out _ (henv.below B5.out))) ?_
    rintro e w6 ⟨H, ch, rfl, oh, b6⟩
    have Oh := Lib.hid (show Mem.OwnS Mem.sum (w5.heap.size) w6.heap.size w6 H T.2.1.length ch T.2.1 from oh)
    have hs6 : w5.heap.size ≤ w6.heap.size := b6.size
    have d6 : Below w5.heap.size w5 w6 := (Below.refl w5.heap.size w5).trans (b6.mono (show w5.heap.size ≤ w5.heap.size by first | exact Nat.le_refl _ | (simp; done) | (simp; omega)))
    have B6 := Lib.hid (B5.out.trans (d6.mono B5.out.size))
    have Ow_6 := Lib.hid (Ow_5.out.below d6)
    have Vw_6 := Lib.hid (Vw_5.out.below d6)
    have Vg_6 := Lib.hid (Vg_5.out.below d6)
    have Og_6 := Lib.hid (Og_5.out.below d6)
    clear Ow_5 Vw_5 Vg_5 Og_5 c_Vw_0 c_Vw_1 c_Vw_2 lt_Vw c_Vg_0 c_Vg_1 c_Vg_2 lt_Vg b6 d6
    clear oh
    have c_Vw_0 := Vw_6.out.cell 0 _ rfl
    have c_Vw_1 := Vw_6.out.cell 1 _ rfl
    have c_Vw_2 := Vw_6.out.cell 2 _ rfl
    have lt_Vw := Vw_6.out.lt
    have c_Vg_0 := Vg_6.out.cell 0 _ rfl
    have c_Vg_1 := Vg_6.out.cell 1 _ rfl
    have c_Vg_2 := Vg_6.out.cell 2 _ rfl
    have lt_Vg := Vg_6.out.lt
    go_wp2_with fail
    refine (Calls.mono (ArgK.eq_same T.1 T.2.2 H W ch cw T.2.1 _ (Oh.out.below ((Below.refl w6.heap.size w6).alloc (by first | (simp; done) | (simp; omega)) (Obj.cells #[Value.bool T.1, Value.slice H T.2.1.length ch, Value.string T.2.2] 26))).arg (Ow_6.out.below ((Below.refl w6.heap.size w6).alloc (by first | (simp; done) | (simp; omega)) (Obj.cells #[Value.bool T.1, Value.slice H T.2.1.length ch, Value.string T.2.2] 26))).arg hT)) ?_
    rintro e w7 ⟨rfl, b7⟩
    have hs7 : (w6.alloc (Obj.cells #[Value.bool T.1, Value.slice H T.2.1.length ch, Value.string T.2.2] 26)).heap.size ≤ w7.heap.size := b7.size
    simp only [World.size_alloc] at hs7
    have d7 : Below w6.heap.size w6 w7 := ((Below.refl w6.heap.size w6).alloc (by first | (simp; done) | (simp; omega)) (Obj.cells #[Value.bool T.1, Value.slice H T.2.1.length ch, Value.string T.2.2] 26)).trans (b7.mono (show w6.heap.size ≤ (w6.alloc (Obj.cells #[Value.bool T.1, Value.slice H T.2.1.length ch, Value.string T.2.2] 26)).heap.size by first | exact Nat.le_refl _ | (simp; done) | (simp; omega)))
    have B7 := Lib.hid (B6.out.trans (d7.mono B6.out.size))
    have Ow_7 := Lib.hid (Ow_6.out.below d7)
    have Vw_7 := Lib.hid (Vw_6.out.below d7)
    have Vg_7 := Lib.hid (Vg_6.out.below d7)
    have Og_7 := Lib.hid (Og_6.out.below d7)
    have Oh_7 := Lib.hid (Oh.out.below d7)
    have Vh_7 := Lib.hid ((Lvar.new w6 #[Value.bool T.1, Value.slice H T.2.1.length ch, Value.string T.2.2] 26).below b7)
    clear Ow_6 Vw_6 Vg_6 Og_6 Oh c_Vw_0 c_Vw_1 c_Vw_2 lt_Vw c_Vg_0 c_Vg_1 c_Vg_2 lt_Vg b7 d7
    have c_Vw_0 := Vw_7.out.cell 0 _ rfl
    have c_Vw_1 := Vw_7.out.cell 1 _ rfl
    have c_Vw_2 := Vw_7.out.cell 2 _ rfl
    have lt_Vw := Vw_7.out.lt
    have c_Vg_0 := Vg_7.out.cell 0 _ rfl
    have c_Vg_1 := Vg_7.out.cell 1 _ rfl
    have c_Vg_2 := Vg_7.out.cell 2 _ rfl
    have lt_Vg := Vg_7.out.lt
    have c_Vh_0 := Vh_7.out.cell 0 _ rfl
    have c_Vh_1 := Vh_7.out.cell 1 _ rfl
    have c_Vh_2 := Vh_7.out.cell 2 _ rfl
    have lt_Vh := Vh_7.out.lt
    go_wp2_with fail
    refine (Calls.mono (ArgK.held T.1 T.2.2 G cg 1 T.2.1 _ Og_7.out.arg hT (by omega) (by omega))) ?_
    rintro e w8 ⟨rfl, b8⟩
    have hs8 : w7.heap.size ≤ w8.heap.size := b8.size
    have d8 : Below w7.heap.size w7 w8 := (Below.refl w7.heap.size w7).trans (b8.mono (show w7.heap.size ≤ w7.heap.size by first | exact Nat.le_refl _ | (simp; done) | (simp; omega)))
    have B8 := Lib.hid (B7.out.trans (d8.mono B7.out.size))
    have Ow_8 := Lib.hid (Ow_7.out.below d8)
    have Vw_8 := Lib.hid (Vw_7.out.below d8)
    have Vg_8 := Lib.hid (Vg_7.out.below d8)
    have Og_8 := Lib.hid (Og_7.out.below d8)
    have Oh_8 := Lib.hid (Oh_7.out.below d8)
    have Vh_8 := Lib.hid (Vh_7.out.below d8)
    clear Ow_7 Vw_7 Vg_7 Og_7 Oh_7 Vh_7 c_Vw_0 c_Vw_1 c_Vw_2 lt_Vw c_Vg_0 c_Vg_1 c_Vg_2 lt_Vg c_Vh_0 c_Vh_1 c_Vh_2 lt_Vh b8 d8
    have c_Vw_0 := Vw_8.out.cell 0 _ rfl
    have c_Vw_1 := Vw_8.out.cell 1 _ rfl
    have c_Vw_2 := Vw_8.out.cell 2 _ rfl
    have lt_Vw := Vw_8.out.lt
    have c_Vg_0 := Vg_8.out.cell 0 _ rfl
    have c_Vg_1 := Vg_8.out.cell 1 _ rfl
    have c_Vg_2 := Vg_8.out.cell 2 _ rfl
    have lt_Vg := Vg_8.out.lt
    have c_Vh_0 := Vh_8.out.cell 0 _ rfl
    have c_Vh_1 := Vh_8.out.cell 1 _ rfl
    have c_Vh_2 := Vh_8.out.cell 2 _ rfl
    have lt_Vh := Vh_8.out.lt
    go_wp2
    go_ret
    exact ⟨rfl, B8.out⟩
  · go_enter Tryz.func5, Tryz.ntmps5
    go_wp2
    go_ret
    exact ⟨rfl, Below.refl _ _⟩

theorem laid_met (os : Os) : laidMetH Tryz.prog Rows.fnExactParseArgRow.laid ((start os).forCall (fun _ _ => 0) ⟨#[], #[.string .empty], []⟩).memory :=
  laidMetH_of_parts3 (fuel := 8) (laidMet_of_run' 8 (by kernel_rfl) (by kernel_rfl)) (by kernel_rfl) (by kernel_rfl)
set_option maxRecDepth 100000 in
theorem lifted (os : Os) (started : os.Started) (H : Type) (enc : TypeId × Value → H) (F : Stop.Interp) :
    ReturnsInHanded {} Tryz.checked os 5 .any ((OpenSpec.ofChange Rows.fnExactParseArgSpec).preRow enc Tryz.prog Tryz.f5 Rows.fnExactParseArgRow.domain false Rows.fnExactParseArgRow.laid) (((OpenSpec.ofChange Rows.fnExactParseArgSpec).at F).post enc Tryz.prog Tryz.f5 false true false false) := by
  have hx : (DataW.whole enc Tryz.prog ((start os).forCall (fun _ _ => 0) ⟨#[], #[.string .empty], []⟩).memory Tryz.f5.params.toList Rows.fnExactParseArgSpec.vars false #[Value.string .empty].toList 8).isSome = true := by kernel_rfl
  obtain ⟨x, hx⟩ := Option.isSome_iff_exists.1 hx
  refine returnsInHanded_of_row (C := Tryz.checked) (s := OpenSpec.ofChange Rows.fnExactParseArgSpec) Frame.own started (by kernel_rfl) Tryz.func5
    (witness_row_atRef (enc := enc) (C := Tryz.checked) false (start os) #[.string .empty] rfl (by kernel_rfl) (by kernel_rfl) (by kernel_rfl)
      (OpenSpec.preRow_of_cond 8 hx rfl (fun k hk => by cases hk) (by kernel_rfl) (laid_met os))) ?_
  intro W base args ds gs before hval0 hW _ _ _ hL hsh _
  have hW' := hW
  obtain ⟨p, q, hA0, hV, rfl, hfz, hnd⟩ := hW
  have hval : ∀ (j : Nat) t v, Tryz.f5.params[j]? = some t → args[j]? = some v → Value.okWide Tryz.prog W .any base t v := hval0
  have hA : DataW.TrodAll enc Tryz.prog W 0 (fun _ => true) true Tryz.f5.params.toList args.toList ds p := hA0
  rw [Tryz.params5] at hA hval
  obtain ⟨v0, d0, rfl, rfl, h0⟩ := trodAll_one hA
  have hlt := fun x hx => hW'.lt x hx
  obtain ⟨g1, rfl⟩ := Frame.vars_one hV
  obtain ⟨s, rfl, rfl, rfl, ws⟩ := open_string Tryz.underlying9 (hval 0 9 v0 rfl rfl) h0
  refine (walk s W (CutI.Env.of_shaped hsh (env hL))).mono fun e W' ⟨he, hb⟩ => ?_
  subst he
  exact ⟨_, rfl, Frame.law_post (tb := 4) Frame.laidOut (by kernel_rfl) (by kernel_rfl) (by kernel_rfl) Tryz.underlying4 hW' rfl hb⟩

theorem said : Rows.FnExactParseArgSaid :=
  OpenClaim.holds_of_cond 5 Tryz.f5 rfl rfl rfl rfl rfl rfl rfl ⟨rfl, rfl, rfl, rfl, rfl⟩ rfl rfl rfl rfl rfl (by kernel_rfl) Tryz.func5 (by kernel_rfl)
    (of_decide_eq_true (by kernel_rfl)) (by unfold Func.isWrapper; first | (rw [if_pos (by decide +kernel)]; kernel_rfl) | (rw [if_neg (by decide +kernel)]; exact ⟨rfl, rfl⟩))
    (fun os started H enc _ F => by rw [OpenClaim.pre_eq_preRow]; exact lifted os started H enc F)

theorem plain (f : FuncId) (fn : Func) (hf : Tryz.pinned.checked.prog.funcNamed "loop.example/g00515/laws.FnExactParseArg" = some f) (hfn : Tryz.pinned.checked.prog.funcs[f]? = some fn) :
    true = Tryz.pinned.checked.prog.looks [] ∧ ∀ (j : Nat) t, fn.params[j]? = some t → Tryz.pinned.checked.prog.wantsStandIn t = false := by
  obtain rfl : f = 5 := Option.some.inj ((show Tryz.prog.funcNamed "loop.example/g00515/laws.FnExactParseArg" = some 5 by kernel_rfl).symm.trans hf) |>.symm
  obtain rfl : fn = Tryz.f5 := (Option.some.inj (Tryz.func5.symm.trans hfn)).symm
  refine ⟨by kernel_rfl, fun j t ht => ?_⟩
  rw [Tryz.params5] at ht
  have hm : t ∈ [9] := by simpa using Array.mem_of_getElem? ht
  have hall : ([9].all fun u => !Tryz.prog.wantsStandIn u) = true := by kernel_rfl
  exact (show Tryz.prog.wantsStandIn t = false by simpa using List.all_eq_true.1 hall t hm)

theorem card : Rows.FnExactParseArgCardSaid :=
  Claim7.holds_tied_plain_at .later [] _ _ _ _ said (fun _ h => by cases h) (by kernel_rfl) (fun _ h => by cases h) fnExactParseArg_row_tie rfl ⟨rfl, rfl⟩ (by kernel_rfl) rfl plain (by kernel_rfl)
end LawParseArg
end Go.Proofs.YtjjhpabmhnincaaGreatDoor
