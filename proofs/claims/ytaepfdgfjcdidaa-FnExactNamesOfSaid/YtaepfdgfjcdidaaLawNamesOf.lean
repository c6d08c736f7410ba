import Derived.Test.YtaepfdgfjcdidaaRows
import Derived.Test.YtaepfdgfjcdidaaFrame
import Derived.Test.YtaepfdgfjcdidaaFrameArg
import Derived.Test.YtaepfdgfjcdidaaArgOwn
import Derived.Test.YtaepfdgfjcdidaaArgNames
import Derived.Test.YtaepfdgfjcdidaaStrKeep2
import Derived.Test.YtaepfdgfjcdidaaStrEq
import Derived.Deep.RegionHeld3
import Derived.SliceStrings
/- At every argument, impl.NamesOf answers as its model, writes nothing into its argument and answers in new memory: the law FnExactNamesOf returns true. There is no condition. -/
namespace Go.Proofs.Ytaepfdgfjcdidaa
open Go.ChangeShapes Go.WideShapes Go.ChangeAt Go.RowKit
open Go.ChangeMaps (open_string shut_string)
namespace LawNamesOf
theorem isSum : Frame.IsSum Try.prog 24 22 72 3 9 :=
  ⟨⟨_, _, Try.underlying24, rfl, rfl, rfl, rfl⟩, ⟨_, _, Try.underlying72, rfl, rfl, rfl, rfl⟩, Try.underlying3, Try.underlying9, Try.underlying22, by kernel_rfl, by kernel_rfl, by kernel_rfl, by kernel_rfl, by kernel_rfl⟩

open RowK Mem
set_option maxHeartbeats 4000000 in
set_option maxRecDepth 100000 in
theorem walk (py : Bool) (sy : ByteArray) (Ay : Option Addr) (cy : Nat) (y : List Mem.SumT) (w0 : World) (hy : Mem.ArgS Mem.sum w0 Ay y.length cy y) (hleny : y.length ≤ 9223372036854775807) (hwfy : ∀ x ∈ y, Mem.WfSum x) (hbsy : sy.size ≤ 9223372036854775807) :
    Calls Try.prog 5 #[.agg #[.bool py, .slice Ay y.length cy, .string sy]] w0 fun e w' => e = .returned (.bool true) ∧ Below w0.heap.size w0 w' := by
  have SZ := fun W (h : Mem.ArgS Mem.sum W Ay y.length cy y) => ArgK.size py sy Ay cy 1048576 y W h (by omega) hleny hwfy hbsy
  unfold IntK.leftOf at SZ
  by_cases hty : Mem.argsSize y sy ≤ 1048576
  · simp only [if_pos hty] at SZ
    have HS0 := Lib.hid SZ
    have hny : Mem.argsSize y sy ≤ 1000000000 := by omega
    clear SZ hleny hwfy hbsy
    have hl10 : y.length + szs ssl y ≤ 10000000 := Nat.le_trans (ArgK.len_le y sy) (by omega)
    have SP := fun A c W (h : Mem.ArgS Mem.sum W A y.length c y) => ArgI.namesS py sy A c y W h hl10
    have IM := fun A c W (h : Mem.ArgS Mem.sum W A y.length c y) => ArgI.names py sy A c y W h hl10
    have hT : (SortM.srtB (ArgI.nmA y sy)).length ≤ 100000000 := Nat.le_trans (SortM.srtB_length _) (ArgI.nmA_len y sy hl10)
    have hneg : decide ((1 : Int) + ((szs nSum y : Nat) : Int) < 0) = false := decide_eq_false (by omega)
    generalize SortM.srtB (ArgI.nmA y sy) = T at *
    unfold StrK.Gave at SP IM
    have SP := Lib.hid SP
    have IM := Lib.hid IM
    have B0 := Lib.hid (Below.refl w0.heap.size w0)
    go_enter Try.func5, Try.ntmps5
    go_wp2_with fail
    refine (Calls.mono (HS0.out _ (hy.below (B0.out.trans (((Below.refl w0.heap.size w0).alloc (by first | (simp; done) | (simp; omega)) (Obj.cells #[Value.bool py, Value.slice Ay y.length cy, Value.string sy] 35)).mono B0.out.size))))) ?_
    rintro e w1 ⟨rfl, b1⟩
    have hs1 : (w0.alloc (Obj.cells #[Value.bool py, Value.slice Ay y.length cy, Value.string sy] 35)).heap.size ≤ w1.heap.size := b1.size
    simp only [World.size_alloc] at hs1
    have d1 : Below w0.heap.size w0 w1 := ((Below.refl w0.heap.size w0).alloc (by first | (simp; done) | (simp; omega)) (Obj.cells #[Value.bool py, Value.slice Ay y.length cy, Value.string sy] 35)).trans (b1.mono (show w0.heap.size ≤ (w0.alloc (Obj.cells #[Value.bool py, Value.slice Ay y.length cy, Value.string sy] 35)).heap.size by first | exact Nat.le_refl _ | (simp; done) | (simp; omega)))
    have B1 := Lib.hid (B0.out.trans (d1.mono B0.out.size))
    have Vby_1 := Lib.hid ((Lvar.new w0 #[Value.bool py, Value.slice Ay y.length cy, Value.string sy] 35).below b1)
    clear b1 d1
    have c_Vby_0 := Vby_1.out.cell 0 _ rfl
    have c_Vby_1 := Vby_1.out.cell 1 _ rfl
    have c_Vby_2 := Vby_1.out.cell 2 _ rfl
    have lt_Vby := Vby_1.out.lt
    go_wp2_with fail
    refine (Calls.mono (ArgK.copy py sy Ay cy y _ (hy.below B1.out) hny)) ?_
    rintro e w2 ⟨Ty, rfl, oty, b2⟩
    have Oty := Lib.hid (show Mem.OwnS Mem.sum (w1.heap.size) w2.heap.size w2 Ty y.length y.length y from oty)
    have hs2 : w1.heap.size ≤ w2.heap.size := b2.size
    have d2 : Below w1.heap.size w1 w2 := (Below.refl w1.heap.size w1).trans (b2.mono (show w1.heap.size ≤ w1.heap.size by first | exact Nat.le_refl _ | (simp; done) | (simp; omega)))
    have B2 := Lib.hid (B1.out.trans (d2.mono B1.out.size))
    have Vby_2 := Lib.hid (Vby_1.out.below d2)
    clear Vby_1 c_Vby_0 c_Vby_1 c_Vby_2 lt_Vby b2 d2
    have c_Vby_0 := Vby_2.out.cell 0 _ rfl
    have c_Vby_1 := Vby_2.out.cell 1 _ rfl
    have c_Vby_2 := Vby_2.out.cell 2 _ rfl
    have lt_Vby := Vby_2.out.lt
    go_wp2_with fail
    refine (Calls.mono (SP.out Ty y.length _ Oty.out.arg)) ?_
    rintro e w3 ⟨W, cw, rfl, rw, fw, b3, nw, kw⟩
    have Kw := Lib.hid (show StrK.SR (w2.heap.size) w3.heap.size w3 W T from ⟨rw, fw, Nat.le_refl _, fun a e => ⟨StrK.blk_ge nw a e, StrK.blk_lt rw a e⟩⟩)
    clear rw fw nw kw
    have hs3 : w2.heap.size ≤ w3.heap.size := b3.size
    have d3 : Below w2.heap.size w2 w3 := (Below.refl w2.heap.size w2).trans (b3.mono (show w2.heap.size ≤ w2.heap.size by first | exact Nat.le_refl _ | (simp; done) | (simp; omega)))
    have B3 := Lib.hid (B2.out.trans (d3.mono B2.out.size))
    have Vby_3 := Lib.hid (Vby_2.out.below d3)
    have Oty_3 := Lib.hid (Oty.out.below d3)
    clear Vby_2 Oty c_Vby_0 c_Vby_1 c_Vby_2 lt_Vby b3 d3
    clear Oty_3
    have c_Vby_0 := Vby_3.out.cell 0 _ rfl
    have c_Vby_1 := Vby_3.out.cell 1 _ rfl
    have c_Vby_2 := Vby_3.out.cell 2 _ rfl
    have lt_Vby := Vby_3.out.lt
    go_wp2_with fail
    refine (Calls.mono (ArgK.copy py sy Ay cy y _ (hy.below B3.out) hny)) ?_
    rintro e w4 ⟨Xy, rfl, oxy, b4⟩
    have Oxy := Lib.hid (show Mem.OwnS Mem.sum (w3.heap.size) w4.heap.size w4 Xy y.length y.length y from oxy)
    have hs4 : w3.heap.size ≤ w4.heap.size := b4.size
    have d4 : Below w3.heap.size w3 w4 := (Below.refl w3.heap.size w3).trans (b4.mono (show w3.heap.size ≤ w3.heap.size by first | exact Nat.le_refl _ | (simp; done) | (simp; omega)))
    have B4 := Lib.hid (B3.out.trans (d4.mono B3.out.size))
    have Vby_4 := Lib.hid (Vby_3.out.below d4)
    have Kw_4 := Lib.hid (Kw.out.below d4)
    clear Vby_3 Kw c_Vby_0 c_Vby_1 c_Vby_2 lt_Vby b4 d4
    have c_Vby_0 := Vby_4.out.cell 0 _ rfl
    have c_Vby_1 := Vby_4.out.cell 1 _ rfl
    have c_Vby_2 := Vby_4.out.cell 2 _ rfl
    have lt_Vby := Vby_4.out.lt
    go_wp2_with fail
    refine (Calls.mono (IM.out Xy y.length _ (Oxy.out.below ((Below.refl w4.heap.size w4).alloc (by first | (simp; done) | (simp; omega)) (Obj.cells #[Value.bool py, Value.slice Xy y.length y.length, Value.string sy] 40))).arg)) ?_
    rintro e w5 ⟨G, cg, rfl, rg, fg, b5, ng, kg⟩
    simp only [World.size_alloc] at ng
    have Kg := Lib.hid (show StrK.SR (w4.heap.size + 1) w5.heap.size w5 G T from ⟨rg, fg, Nat.le_refl _, fun a e => ⟨StrK.blk_ge ng a e, StrK.blk_lt rg a e⟩⟩)
    clear rg fg ng kg
    have hs5 : (w4.alloc (Obj.cells #[Value.bool py, Value.slice Xy y.length y.length, Value.string sy] 40)).heap.size ≤ w5.heap.size := b5.size
    simp only [World.size_alloc] at hs5
    have d5 : Below w4.heap.size w4 w5 := ((Below.refl w4.heap.size w4).alloc (by first | (simp; done) | (simp; omega)) (Obj.cells #[Value.bool py, Value.slice Xy y.length y.length, Value.string sy] 40)).trans (b5.mono (show w4.heap.size ≤ (w4.alloc (Obj.cells #[Value.bool py, Value.slice Xy y.length y.length, Value.string sy] 40)).heap.size by first | exact Nat.le_refl _ | (simp; done) | (simp; omega)))
    have B5 := Lib.hid (B4.out.trans (d5.mono B4.out.size))
    have Vby_5 := Lib.hid (Vby_4.out.below d5)
    have Kw_5 := Lib.hid (Kw_4.out.below d5)
    have Oxy_5 := Lib.hid (Oxy.out.below d5)
    have Vxy_5 := Lib.hid ((Lvar.new w4 #[Value.bool py, Value.slice Xy y.length y.length, Value.string sy] 40).below b5)
    clear Vby_4 Kw_4 Oxy c_Vby_0 c_Vby_1 c_Vby_2 lt_Vby b5 d5
    have c_Vby_0 := Vby_5.out.cell 0 _ rfl
    have c_Vby_1 := Vby_5.out.cell 1 _ rfl
    have c_Vby_2 := Vby_5.out.cell 2 _ rfl
    have lt_Vby := Vby_5.out.lt
    have c_Vxy_0 := Vxy_5.out.cell 0 _ rfl
    have c_Vxy_1 := Vxy_5.out.cell 1 _ rfl
    have c_Vxy_2 := Vxy_5.out.cell 2 _ rfl
    have lt_Vxy := Vxy_5.out.lt
    go_wp2_with fail
    refine (Calls.mono (StrK.eq_same G W cg cw T _ Kg.out.1 Kw_5.out.1 (by omega))) ?_
    rintro e w6 ⟨rfl, b6⟩
    have hs6 : w5.heap.size ≤ w6.heap.size := b6.size
    have d6 : Below w5.heap.size w5 w6 := (Below.refl w5.heap.size w5).trans (b6.mono (show w5.heap.size ≤ w5.heap.size by first | exact Nat.le_refl _ | (simp; done) | (simp; omega)))
    have B6 := Lib.hid (B5.out.trans (d6.mono B5.out.size))
    have Vby_6 := Lib.hid (Vby_5.out.below d6)
    have Kw_6 := Lib.hid (Kw_5.out.below d6)
    have Oxy_6 := Lib.hid (Oxy_5.out.below d6)
    have Vxy_6 := Lib.hid (Vxy_5.out.below d6)
    have Kg_6 := Lib.hid (Kg.out.below d6)
    clear Vby_5 Kw_5 Oxy_5 Vxy_5 Kg c_Vby_0 c_Vby_1 c_Vby_2 lt_Vby c_Vxy_0 c_Vxy_1 c_Vxy_2 lt_Vxy b6 d6
    have c_Vby_0 := Vby_6.out.cell 0 _ rfl
    have c_Vby_1 := Vby_6.out.cell 1 _ rfl
    have c_Vby_2 := Vby_6.out.cell 2 _ rfl
    have lt_Vby := Vby_6.out.lt
    have c_Vxy_0 := Vxy_6.out.cell 0 _ rfl
    have c_Vxy_1 := Vxy_6.out.cell 1 _ rfl
    have c_Vxy_2 := Vxy_6.out.cell 2 _ rfl
    have lt_Vxy := Vxy_6.out.lt
    go_wp2_with fail
    go_region_held3 (fun w' => w'.cell? ⟨w4.heap.size, 0, none⟩ = some (Value.bool py) ∧ w'.cell? ⟨w4.heap.size, 1, none⟩ = some (Value.slice Xy y.length y.length) ∧ w'.cell? ⟨w4.heap.size, 2, none⟩ = some (Value.string sy) ∧ w'.cell? ⟨w0.heap.size, 0, none⟩ = some (Value.bool py) ∧ w'.cell? ⟨w0.heap.size, 1, none⟩ = some (Value.slice Ay y.length cy) ∧ w'.cell? ⟨w0.heap.size, 2, none⟩ = some (Value.string sy))
      (first | exact ⟨(((Vxy_6.out.below (Below.refl _ _).drew).below b7).below b8).cell 0 _ rfl, (((Vxy_6.out.below (Below.refl _ _).drew).below b7).below b8).cell 1 _ rfl, (((Vxy_6.out.below (Below.refl _ _).drew).below b7).below b8).cell 2 _ rfl, (((Vby_6.out.below (Below.refl _ _).drew).below b7).below b8).cell 0 _ rfl, (((Vby_6.out.below (Below.refl _ _).drew).below b7).below b8).cell 1 _ rfl, (((Vby_6.out.below (Below.refl _ _).drew).below b7).below b8).cell 2 _ rfl⟩ | exact ⟨((Vxy_6.out.below (Below.refl _ _).drew).below b7).cell 0 _ rfl, ((Vxy_6.out.below (Below.refl _ _).drew).below b7).cell 1 _ rfl, ((Vxy_6.out.below (Below.refl _ _).drew).below b7).cell 2 _ rfl, ((Vby_6.out.below (Below.refl _ _).drew).below b7).cell 0 _ rfl, ((Vby_6.out.below (Below.refl _ _).drew).below b7).cell 1 _ rfl, ((Vby_6.out.below (Below.refl _ _).drew).below b7).cell 2 _ rfl⟩ | go_keep)
      (first
        | (go_at_call 14; refine (Calls.mono (ArgK.copy py sy Ay cy y _ (hy.below B6.out.drew) hny)) ?_; rintro e w7 ⟨C6, rfl, oc6, b7⟩)
        | (go_at_call 16; refine (Calls.mono (ArgK.eq_same py sy Xy C6 y.length y.length y _ ((Oxy_6.out.below (Below.refl _ _).drew).below b7).arg oc6.arg hny)) ?_; rintro e w8 ⟨rfl, b8⟩))
    have h7 : w6.heap.size ≤ w7.heap.size := b7.size
    have h8 : w7.heap.size ≤ w8.heap.size := b8.size
    have d8 : Below w6.heap.size w6 w8 := (((Below.refl w6.heap.size w6).drew.trans (b7.mono (show w6.heap.size ≤ w6.heap.size by omega))).trans (b8.mono (show w6.heap.size ≤ w7.heap.size by omega)))
    have hs8 := d8.size
    have B8 := Lib.hid (B6.out.trans (d8.mono B6.out.size))
    have Vby_8 := Lib.hid (Vby_6.out.below d8)
    have Kw_8 := Lib.hid (Kw_6.out.below d8)
    have Oxy_8 := Lib.hid (Oxy_6.out.below d8)
    have Vxy_8 := Lib.hid (Vxy_6.out.below d8)
    have Kg_8 := Lib.hid (Kg_6.out.below d8)
    clear Vby_6 Kw_6 Oxy_6 Vxy_6 Kg_6 c_Vby_0 c_Vby_1 c_Vby_2 lt_Vby c_Vxy_0 c_Vxy_1 c_Vxy_2 lt_Vxy b7 h7 b8 h8 d8
    clear oc6
    have c_Vby_0 := Vby_8.out.cell 0 _ rfl
    have c_Vby_1 := Vby_8.out.cell 1 _ rfl
    have c_Vby_2 := Vby_8.out.cell 2 _ rfl
    have lt_Vby := Vby_8.out.lt
    have c_Vxy_0 := Vxy_8.out.cell 0 _ rfl
    have c_Vxy_1 := Vxy_8.out.cell 1 _ rfl
    have c_Vxy_2 := Vxy_8.out.cell 2 _ rfl
    have lt_Vxy := Vxy_8.out.lt
    go_wp2_with fail
    refine (Calls.mono (ArgK.mark (w3.heap.size) w4.heap.size py sy Xy y.length 1 y _ Oxy_8.out hny (by omega) (by omega))) ?_
    rintro e w9 ⟨rfl, rm, b9⟩
    have hs9 := b9.size
    have B9 := Lib.hid (below_mod B8.out b9 (by have := B8.out.size; omega) B8.out.size)
    have Vby_9 := Lib.hid (Vby_8.out.keep b9 (by omega))
    have Kw_9 := Lib.hid (Kw_8.out.keep b9 (by omega))
    have Vxy_9 := Lib.hid (Vxy_8.out.keep b9 (by omega))
    have Kg_9 := Lib.hid (Kg_8.out.keep b9 (by omega))
    clear Vby_8 Kw_8 Vxy_8 Kg_8 c_Vby_0 c_Vby_1 c_Vby_2 lt_Vby c_Vxy_0 c_Vxy_1 c_Vxy_2 lt_Vxy b9
    clear rm Oxy_8
    have c_Vby_0 := Vby_9.out.cell 0 _ rfl
    have c_Vby_1 := Vby_9.out.cell 1 _ rfl
    have c_Vby_2 := Vby_9.out.cell 2 _ rfl
    have lt_Vby := Vby_9.out.lt
    have c_Vxy_0 := Vxy_9.out.cell 0 _ rfl
    have c_Vxy_1 := Vxy_9.out.cell 1 _ rfl
    have c_Vxy_2 := Vxy_9.out.cell 2 _ rfl
    have lt_Vxy := Vxy_9.out.lt
    go_wp2_with fail
    refine (Calls.mono (StrK.eq_same G W cg cw T _ Kg_9.out.1 Kw_9.out.1 (by omega))) ?_
    rintro e w10 ⟨rfl, b10⟩
    have hs10 : w9.heap.size ≤ w10.heap.size := b10.size
    have d10 : Below w9.heap.size w9 w10 := (Below.refl w9.heap.size w9).trans (b10.mono (show w9.heap.size ≤ w9.heap.size by first | exact Nat.le_refl _ | (simp; done) | (simp; omega)))
    have B10 := Lib.hid (B9.out.trans (d10.mono B9.out.size))
    have Vby_10 := Lib.hid (Vby_9.out.below d10)
    have Kw_10 := Lib.hid (Kw_9.out.below d10)
    have Vxy_10 := Lib.hid (Vxy_9.out.below d10)
    have Kg_10 := Lib.hid (Kg_9.out.below d10)
    clear Vby_9 Kw_9 Vxy_9 Kg_9 c_Vby_0 c_Vby_1 c_Vby_2 lt_Vby c_Vxy_0 c_Vxy_1 c_Vxy_2 lt_Vxy b10 d10
    have c_Vby_0 := Vby_10.out.cell 0 _ rfl
    have c_Vby_1 := Vby_10.out.cell 1 _ rfl
    have c_Vby_2 := Vby_10.out.cell 2 _ rfl
    have lt_Vby := Vby_10.out.lt
    have c_Vxy_0 := Vxy_10.out.cell 0 _ rfl
    have c_Vxy_1 := Vxy_10.out.cell 1 _ rfl
    have c_Vxy_2 := Vxy_10.out.cell 2 _ rfl
    have lt_Vxy := Vxy_10.out.lt
    go_wp2_with fail
    refine (Calls.mono (StrK.markSR (w4.heap.size + 1) w5.heap.size G cg T _ Kg_10.out (by omega))) ?_
    rintro e w11 ⟨rfl, rm, b11⟩
    have hs11 := b11.size
    have B11 := Lib.hid (below_mod B10.out b11 (by have := B10.out.size; omega) B10.out.size)
    have Vby_11 := Lib.hid (Vby_10.out.keep b11 (by omega))
    have Kw_11 := Lib.hid (Kw_10.out.keep b11 (by omega))
    have Vxy_11 := Lib.hid (Vxy_10.out.keep b11 (by omega))
    clear Vby_10 Kw_10 Vxy_10 c_Vby_0 c_Vby_1 c_Vby_2 lt_Vby c_Vxy_0 c_Vxy_1 c_Vxy_2 lt_Vxy b11
    have Rg := Lib.hid rm
    clear rm Kg_10
    have c_Vby_0 := Vby_11.out.cell 0 _ rfl
    have c_Vby_1 := Vby_11.out.cell 1 _ rfl
    have c_Vby_2 := Vby_11.out.cell 2 _ rfl
    have lt_Vby := Vby_11.out.lt
    have c_Vxy_0 := Vxy_11.out.cell 0 _ rfl
    have c_Vxy_1 := Vxy_11.out.cell 1 _ rfl
    have c_Vxy_2 := Vxy_11.out.cell 2 _ rfl
    have lt_Vxy := Vxy_11.out.lt
    go_wp2_with fail
    refine (Calls.mono (StrK.held1 G cg T.length _ Rg.out.1 (by omega))) ?_
    rintro e w12 ⟨rfl, b12⟩
    have hs12 : w11.heap.size ≤ w12.heap.size := b12.size
    have d12 : Below w11.heap.size w11 w12 := (Below.refl w11.heap.size w11).trans (b12.mono (show w11.heap.size ≤ w11.heap.size by first | exact Nat.le_refl _ | (simp; done) | (simp; omega)))
    have B12 := Lib.hid (B11.out.trans (d12.mono B11.out.size))
    have Vby_12 := Lib.hid (Vby_11.out.below d12)
    have Kw_12 := Lib.hid (Kw_11.out.below d12)
    have Vxy_12 := Lib.hid (Vxy_11.out.below d12)
    have Rg_12 := Lib.hid (Rg.out.below d12)
    clear Vby_11 Kw_11 Vxy_11 Rg c_Vby_0 c_Vby_1 c_Vby_2 lt_Vby c_Vxy_0 c_Vxy_1 c_Vxy_2 lt_Vxy b12 d12
    have c_Vby_0 := Vby_12.out.cell 0 _ rfl
    have c_Vby_1 := Vby_12.out.cell 1 _ rfl
    have c_Vby_2 := Vby_12.out.cell 2 _ rfl
    have lt_Vby := Vby_12.out.lt
    have c_Vxy_0 := Vxy_12.out.cell 0 _ rfl
    have c_Vxy_1 := Vxy_12.out.cell 1 _ rfl
    have c_Vxy_2 := Vxy_12.out.cell 2 _ rfl
    have lt_Vxy := Vxy_12.out.lt
    go_wp2_with fail
    refine (Calls.mono (ArgK.copy py sy Ay cy y _ (hy.below B12.out) hny)) ?_
    rintro e w13 ⟨Uy, rfl, ouy, b13⟩
    have Ouy := Lib.hid (show Mem.OwnS Mem.sum (w12.heap.size) w13.heap.size w13 Uy y.length y.length y from ouy)
    have hs13 : w12.heap.size ≤ w13.heap.size := b13.size
    have d13 : Below w12.heap.size w12 w13 := (Below.refl w12.heap.size w12).trans (b13.mono (show w12.heap.size ≤ w12.heap.size by first | exact Nat.le_refl _ | (simp; done) | (simp; omega)))
    have B13 := Lib.hid (B12.out.trans (d13.mono B12.out.size))
    have Vby_13 := Lib.hid (Vby_12.out.below d13)
    have Kw_13 := Lib.hid (Kw_12.out.below d13)
    have Vxy_13 := Lib.hid (Vxy_12.out.below d13)
    have Rg_13 := Lib.hid (Rg_12.out.below d13)
    clear Vby_12 Kw_12 Vxy_12 Rg_12 c_Vby_0 c_Vby_1 c_Vby_2 lt_Vby c_Vxy_0 c_Vxy_1 c_Vxy_2 lt_Vxy b13 d13
    have c_Vby_0 := Vby_13.out.cell 0 _ rfl
    have c_Vby_1 := Vby_13.out.cell 1 _ rfl
    have c_Vby_2 := Vby_13.out.cell 2 _ rfl
    have lt_Vby := Vby_13.out.lt
    have c_Vxy_0 := Vxy_13.out.cell 0 _ rfl
    have c_Vxy_1 := Vxy_13.out.cell 1 _ rfl
    have c_Vxy_2 := Vxy_13.out.cell 2 _ rfl
    have lt_Vxy := Vxy_13.out.lt
    go_wp2_with fail
    refine (Calls.mono (IM.out Uy y.length _ Ouy.out.arg)) ?_
    rintro e w14 ⟨H, ch, rfl, rh, fh, b14, nh, kh⟩
    have Kh := Lib.hid (show StrK.SR (w13.heap.size) w14.heap.size w14 H T from ⟨rh, fh, Nat.le_refl _, fun a e => ⟨StrK.blk_ge nh a e, StrK.blk_lt rh a e⟩⟩)
    clear rh fh nh kh
    have hs14 : w13.heap.size ≤ w14.heap.size := b14.size
    have d14 : Below w13.heap.size w13 w14 := (Below.refl w13.heap.size w13).trans (b14.mono (show w13.heap.size ≤ w13.heap.size by first | exact Nat.le_refl _ | (simp; done) | (simp; omega)))
    have B14 := Lib.hid (B13.out.trans (d14.mono B13.out.size))
    have Vby_14 := Lib.hid (Vby_13.out.below d14)
    have Kw_14 := Lib.hid (Kw_13.out.below d14)
    have Vxy_14 := Lib.hid (Vxy_13.out.below d14)
    have Rg_14 := Lib.hid (Rg_13.out.below d14)
    have Ouy_14 := Lib.hid (Ouy.out.below d14)
    clear Vby_13 Kw_13 Vxy_13 Rg_13 Ouy c_Vby_0 c_Vby_1 c_Vby_2 lt_Vby c_Vxy_0 c_Vxy_1 c_Vxy_2 lt_Vxy b14 d14
    clear Ouy_14
    have c_Vby_0 := Vby_14.out.cell 0 _ rfl
    have c_Vby_1 := Vby_14.out.cell 1 _ rfl
    have c_Vby_2 := Vby_14.out.cell 2 _ rfl
    have lt_Vby := Vby_14.out.lt
    have c_Vxy_0 := Vxy_14.out.cell 0 _ rfl
    have c_Vxy_1 := Vxy_14.out.cell 1 _ rfl
    have c_Vxy_2 := Vxy_14.out.cell 2 _ rfl
    have lt_Vxy := Vxy_14.out.lt
    go_wp2_with fail
    refine (Calls.mono (StrK.eq_same H W ch cw T _ Kh.out.1 Kw_14.out.1 (by omega))) ?_
    rintro e w15 ⟨rfl, b15⟩
    have hs15 : w14.heap.size ≤ w15.heap.size := b15.size
    have d15 : Below w14.heap.size w14 w15 := (Below.refl w14.heap.size w14).trans (b15.mono (show w14.heap.size ≤ w14.heap.size by first | exact Nat.le_refl _ | (simp; done) | (simp; omega)))
    have B15 := Lib.hid (B14.out.trans (d15.mono B14.out.size))
    have Vby_15 := Lib.hid (Vby_14.out.below d15)
    have Kw_15 := Lib.hid (Kw_14.out.below d15)
    have Vxy_15 := Lib.hid (Vxy_14.out.below d15)
    have Rg_15 := Lib.hid (Rg_14.out.below d15)
    have Kh_15 := Lib.hid (Kh.out.below d15)
    clear Vby_14 Kw_14 Vxy_14 Rg_14 Kh c_Vby_0 c_Vby_1 c_Vby_2 lt_Vby c_Vxy_0 c_Vxy_1 c_Vxy_2 lt_Vxy b15 d15
    have c_Vby_0 := Vby_15.out.cell 0 _ rfl
    have c_Vby_1 := Vby_15.out.cell 1 _ rfl
    have c_Vby_2 := Vby_15.out.cell 2 _ rfl
    have lt_Vby := Vby_15.out.lt
    have c_Vxy_0 := Vxy_15.out.cell 0 _ rfl
    have c_Vxy_1 := Vxy_15.out.cell 1 _ rfl
    have c_Vxy_2 := Vxy_15.out.cell 2 _ rfl
    have lt_Vxy := Vxy_15.out.lt
    go_wp2_with fail
    refine (Calls.mono (StrK.held1 G cg T.length _ Rg_15.out.1 (by omega))) ?_
    rintro e w16 ⟨rfl, b16⟩
    have hs16 : w15.heap.size ≤ w16.heap.size := b16.size
    have d16 : Below w15.heap.size w15 w16 := (Below.refl w15.heap.size w15).trans (b16.mono (show w15.heap.size ≤ w15.heap.size by first | exact Nat.le_refl _ | (simp; done) | (simp; omega)))
    have B16 := Lib.hid (B15.out.trans (d16.mono B15.out.size))
    have Vby_16 := Lib.hid (Vby_15.out.below d16)
    have Kw_16 := Lib.hid (Kw_15.out.below d16)
    have Vxy_16 := Lib.hid (Vxy_15.out.below d16)
    have Rg_16 := Lib.hid (Rg_15.out.below d16)
    have Kh_16 := Lib.hid (Kh_15.out.below d16)
    clear Vby_15 Kw_15 Vxy_15 Rg_15 Kh_15 c_Vby_0 c_Vby_1 c_Vby_2 lt_Vby c_Vxy_0 c_Vxy_1 c_Vxy_2 lt_Vxy b16 d16
    have c_Vby_0 := Vby_16.out.cell 0 _ rfl
    have c_Vby_1 := Vby_16.out.cell 1 _ rfl
    have c_Vby_2 := Vby_16.out.cell 2 _ rfl
    have lt_Vby := Vby_16.out.lt
    have c_Vxy_0 := Vxy_16.out.cell 0 _ rfl
    have c_Vxy_1 := Vxy_16.out.cell 1 _ rfl
    have c_Vxy_2 := Vxy_16.out.cell 2 _ rfl
    have lt_Vxy := Vxy_16.out.lt
    go_wp2
    go_ret
    exact ⟨rfl, B16.out⟩
  · simp only [if_neg hty] at SZ
    have HS0 := Lib.hid SZ
    clear SZ hleny hwfy hbsy
    have B0 := Lib.hid (Below.refl w0.heap.size w0)
    go_enter Try.func5, Try.ntmps5
    go_wp2_with fail
    refine (Calls.mono (HS0.out _ (hy.below (B0.out.trans (((Below.refl w0.heap.size w0).alloc (by first | (simp; done) | (simp; omega)) (Obj.cells #[Value.bool py, Value.slice Ay y.length cy, Value.string sy] 35)).mono B0.out.size))))) ?_
    rintro e w1 ⟨rfl, b1⟩
    have hs1 : (w0.alloc (Obj.cells #[Value.bool py, Value.slice Ay y.length cy, Value.string sy] 35)).heap.size ≤ w1.heap.size := b1.size
    simp only [World.size_alloc] at hs1
    have d1 : Below w0.heap.size w0 w1 := ((Below.refl w0.heap.size w0).alloc (by first | (simp; done) | (simp; omega)) (Obj.cells #[Value.bool py, Value.slice Ay y.length cy, Value.string sy] 35)).trans (b1.mono (show w0.heap.size ≤ (w0.alloc (Obj.cells #[Value.bool py, Value.slice Ay y.length cy, Value.string sy] 35)).heap.size by first | exact Nat.le_refl _ | (simp; done) | (simp; omega)))
    have B1 := Lib.hid (B0.out.trans (d1.mono B0.out.size))
    have Vby_1 := Lib.hid ((Lvar.new w0 #[Value.bool py, Value.slice Ay y.length cy, Value.string sy] 35).below b1)
    clear b1 d1
    have c_Vby_0 := Vby_1.out.cell 0 _ rfl
    have c_Vby_1 := Vby_1.out.cell 1 _ rfl
    have c_Vby_2 := Vby_1.out.cell 2 _ rfl
    have lt_Vby := Vby_1.out.lt
    go_wp2
    go_ret
    exact ⟨rfl, B1.out⟩

set_option maxRecDepth 100000 in
theorem lifted (os : Os) (started : os.Started) (H : Type) (enc : TypeId × Value → H) :
    ReturnsInHanded {} Try.checked os 5 .any (Rows.fnExactNamesOfSpec.pre6 enc Try.prog Try.f5 Rows.fnExactNamesOfRow.domain false) (Rows.fnExactNamesOfSpec.post enc Try.prog Try.f5 false true false false) := by
  refine returnsInHanded_of_change (C := Try.checked) Frame.own started (by kernel_rfl) Try.func5
    (ChangeSpec.witness6 (enc := enc) (C := Try.checked) false ⟨#[], #[.agg #[.bool false, .slice none 0 0, .string .empty]], []⟩ 8 (by kernel_rfl) (by kernel_rfl) (by kernel_rfl) (by kernel_rfl)) ?_
  intro W base args ds gs before hval0 hW _ _
  have hW' := hW
  have hval : ∀ (j : Nat) t v, Try.f5.params[j]? = some t → args[j]? = some v → Value.okWide Try.prog W .any base t v := hval0
  obtain ⟨p, q, hA0, hV, rfl, hfz, hnd⟩ := hW
  have hA : DataW.TrodAll enc Try.prog W 0 (fun _ => true) true Try.f5.params.toList args.toList ds p := hA0
  rw [Try.params5] at hA hval
  obtain ⟨v0, d0, rfl, rfl, h0⟩ := trodAll_one hA
  have hlt := fun x hx => hW'.lt x hx
  obtain ⟨rfl, rfl⟩ := trodVars_none hV
  obtain ⟨py, ay, cy, y, sy, rfl, hry, hly, hsy, hby⟩ := Frame.open_arg (W := W) isSum Try.underlying35 (by kernel_rfl) (by kernel_rfl) rfl rfl rfl Try.underlying4 Try.underlying33 (hval 0 35 v0 rfl rfl) h0 (fun x hx => hlt x (by simp [hx]))
  refine (walk py sy ay cy y W hry hly hsy hby).mono fun e W' ⟨he, hb⟩ => ?_
  subst he
  exact ⟨_, rfl, Frame.law_post (tb := 4) Frame.laidOut (by kernel_rfl) (by kernel_rfl) (by kernel_rfl) Try.underlying4 hW' rfl hb⟩

theorem proved : Rows.FnExactNamesOfSaid :=
  OpenClaim.holds_of_wide 5 Try.f5 rfl rfl rfl rfl rfl rfl rfl ⟨rfl, rfl, rfl, rfl, rfl⟩ rfl rfl rfl rfl rfl (by kernel_rfl) Try.func5 (by kernel_rfl)
    (of_decide_eq_true (by kernel_rfl)) (by unfold Func.isWrapper; first | (rw [if_pos (by decide +kernel)]; kernel_rfl) | (rw [if_neg (by decide +kernel)]; exact ⟨rfl, rfl⟩))
    (fun os started H enc _ => lifted os started H enc)
end LawNamesOf
end Go.Proofs.Ytaepfdgfjcdidaa
