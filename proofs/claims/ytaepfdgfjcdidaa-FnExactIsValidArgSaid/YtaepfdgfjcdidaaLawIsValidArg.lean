import Derived.Test.YtaepfdgfjcdidaaRows
import Derived.Test.YtaepfdgfjcdidaaFrame
import Derived.Test.YtaepfdgfjcdidaaFrameArg
import Derived.Test.YtaepfdgfjcdidaaArgOwn
import Derived.Test.YtaepfdgfjcdidaaArgSpec
import Derived.Test.YtaepfdgfjcdidaaArgEqS
import Derived.Deep.RegionHeld3
import Derived.SliceStrings
/- At every argument, impl.IsValidArg answers as its model and writes nothing into its arguments: the law FnExactIsValidArg returns true. There is no condition. -/
namespace Go.Proofs.Ytaepfdgfjcdidaa
open Go.ChangeShapes Go.WideShapes Go.ChangeAt Go.RowKit
open Go.ChangeMaps (open_string shut_string)
namespace LawIsValidArg
theorem isSum : Frame.IsSum Try.prog 24 22 72 3 9 :=
  ⟨⟨_, _, Try.underlying24, rfl, rfl, rfl, rfl⟩, ⟨_, _, Try.underlying72, rfl, rfl, rfl, rfl⟩, Try.underlying3, Try.underlying9, Try.underlying22, by kernel_rfl, by kernel_rfl, by kernel_rfl, by kernel_rfl, by kernel_rfl⟩

open RowK Mem
set_option maxHeartbeats 4000000 in
set_option maxRecDepth 100000 in
theorem walk (py : Bool) (sy : ByteArray) (Ay : Option Addr) (cy : Nat) (y : List Mem.SumT) (w0 : World) (hy : Mem.ArgS Mem.sum w0 Ay y.length cy y) (hleny : y.length ≤ 9223372036854775807) (hwfy : ∀ x ∈ y, Mem.WfSum x) (hbsy : sy.size ≤ 9223372036854775807) :
    Calls Try.prog 4 #[.agg #[.bool py, .slice Ay y.length cy, .string sy]] w0 fun e w' => e = .returned (.bool true) ∧ Below w0.heap.size w0 w' := by
  have SZ := fun W (h : Mem.ArgS Mem.sum W Ay y.length cy y) => ArgK.size py sy Ay cy 1048576 y W h (by omega) hleny hwfy hbsy
  unfold IntK.leftOf at SZ
  by_cases hty : Mem.argsSize y sy ≤ 1048576
  · simp only [if_pos hty] at SZ
    have HS0 := Lib.hid SZ
    have hny : Mem.argsSize y sy ≤ 1000000000 := by omega
    clear SZ hleny hwfy hbsy
    have B0 := Lib.hid (Below.refl w0.heap.size w0)
    go_enter Try.func4, Try.ntmps4
    go_wp2_with fail
    refine (Calls.mono (HS0.out _ (hy.below (B0.out.trans (((Below.refl w0.heap.size w0).alloc (by first | (simp; done) | (simp; omega)) (Obj.cells #[Value.bool py, Value.slice Ay y.length cy, Value.string sy] 35)).mono B0.out.size))))) ?_
    rintro e w1 ⟨rfl, b1⟩
    have hs1 : (w0.alloc (Obj.cells #[Value.bool py, Value.slice Ay y.length cy, Value.string sy] 35)).heap.size ≤ w1.heap.size := b1.size
    simp only [World.size_alloc] at hs1
    have d1 : Below w0.heap.size w0 w1 := ((Below.refl w0.heap.size w0).alloc (by first | (simp; done) | (simp; omega)) (Obj.cells #[Value.bool py, Value.slice Ay y.length cy, Value.string sy] 35)).trans (b1.mono (show w0.heap.size ≤ (w0.alloc (Obj.cells #[Value.bool py, Value.slice Ay y.length cy, Value.string sy] 35)).heap.size by first | exact Nat.le_refl _ | (simp; done) | (simp; omega)))
    have B1 := Lib.hid (B0.out.trans (d1.mono B0.out.size))
    have Vby_1 := Lib.hid ((Lvar.new w0 #[Value.bool py, Value.slice Ay y.length cy, Value.string sy] 35).below b1)
    clear b1 d1
    have c_Vby_0 := Vby_1.out.cell 0 _ rfl
    have c_Vby_1 := Vby_1.out.cell 1 _ rfl
    have c_Vby_2 := Vby_1.out.cell 2 _ rfl
    have lt_Vby := Vby_1.out.lt
    go_wp2_with fail
    refine (Calls.mono (ArgK.copy py sy Ay cy y _ (hy.below B1.out) hny)) ?_
    rintro e w2 ⟨Ty, rfl, oty, b2⟩
    have Oty := Lib.hid (show Mem.OwnS Mem.sum (w1.heap.size) w2.heap.size w2 Ty y.length y.length y from oty)
    have hs2 : w1.heap.size ≤ w2.heap.size := b2.size
    have d2 : Below w1.heap.size w1 w2 := (Below.refl w1.heap.size w1).trans (b2.mono (show w1.heap.size ≤ w1.heap.size by first | exact Nat.le_refl _ | (simp; done) | (simp; omega)))
    have B2 := Lib.hid (B1.out.trans (d2.mono B1.out.size))
    have Vby_2 := Lib.hid (Vby_1.out.below d2)
    clear Vby_1 c_Vby_0 c_Vby_1 c_Vby_2 lt_Vby b2 d2
    have c_Vby_0 := Vby_2.out.cell 0 _ rfl
    have c_Vby_1 := Vby_2.out.cell 1 _ rfl
    have c_Vby_2 := Vby_2.out.cell 2 _ rfl
    have lt_Vby := Vby_2.out.lt
    go_wp2_with fail
    refine (Calls.mono (ArgP.validArg py Ty y.length y sy _ Oty.out.arg (Nat.le_trans (ArgK.len_le y sy) hny) (ArgK.sizes hny) (ArgK.bsize hny))) ?_
    rintro e w3 ⟨rfl, b3⟩
    have hs3 : w2.heap.size ≤ w3.heap.size := b3.size
    have d3 : Below w2.heap.size w2 w3 := (Below.refl w2.heap.size w2).trans (b3.mono (show w2.heap.size ≤ w2.heap.size by first | exact Nat.le_refl _ | (simp; done) | (simp; omega)))
    have B3 := Lib.hid (B2.out.trans (d3.mono B2.out.size))
    have Vby_3 := Lib.hid (Vby_2.out.below d3)
    have Oty_3 := Lib.hid (Oty.out.below d3)
    clear Vby_2 Oty c_Vby_0 c_Vby_1 c_Vby_2 lt_Vby b3 d3
    clear Oty_3
    have c_Vby_0 := Vby_3.out.cell 0 _ rfl
    have c_Vby_1 := Vby_3.out.cell 1 _ rfl
    have c_Vby_2 := Vby_3.out.cell 2 _ rfl
    have lt_Vby := Vby_3.out.lt
    go_wp2_with fail
    refine (Calls.mono (ArgK.copy py sy Ay cy y _ (hy.below B3.out) hny)) ?_
    rintro e w4 ⟨Xy, rfl, oxy, b4⟩
    have Oxy := Lib.hid (show Mem.OwnS Mem.sum (w3.heap.size) w4.heap.size w4 Xy y.length y.length y from oxy)
    have hs4 : w3.heap.size ≤ w4.heap.size := b4.size
    have d4 : Below w3.heap.size w3 w4 := (Below.refl w3.heap.size w3).trans (b4.mono (show w3.heap.size ≤ w3.heap.size by first | exact Nat.le_refl _ | (simp; done) | (simp; omega)))
    have B4 := Lib.hid (B3.out.trans (d4.mono B3.out.size))
    have Vby_4 := Lib.hid (Vby_3.out.below d4)
    clear Vby_3 c_Vby_0 c_Vby_1 c_Vby_2 lt_Vby b4 d4
    have c_Vby_0 := Vby_4.out.cell 0 _ rfl
    have c_Vby_1 := Vby_4.out.cell 1 _ rfl
    have c_Vby_2 := Vby_4.out.cell 2 _ rfl
    have lt_Vby := Vby_4.out.lt
    go_wp2_with fail
    refine (Calls.mono (ArgI.validArg py Xy y.length y sy _ (Oxy.out.below ((Below.refl w4.heap.size w4).alloc (by first | (simp; done) | (simp; omega)) (Obj.cells #[Value.bool py, Value.slice Xy y.length y.length, Value.string sy] 40))).arg (Nat.le_trans (ArgK.len_le y sy) hny) (ArgK.sizes hny) (ArgK.bsize hny))) ?_
    rintro e w5 ⟨rfl, b5⟩
    have hs5 : (w4.alloc (Obj.cells #[Value.bool py, Value.slice Xy y.length y.length, Value.string sy] 40)).heap.size ≤ w5.heap.size := b5.size
    simp only [World.size_alloc] at hs5
    have d5 : Below w4.heap.size w4 w5 := ((Below.refl w4.heap.size w4).alloc (by first | (simp; done) | (simp; omega)) (Obj.cells #[Value.bool py, Value.slice Xy y.length y.length, Value.string sy] 40)).trans (b5.mono (show w4.heap.size ≤ (w4.alloc (Obj.cells #[Value.bool py, Value.slice Xy y.length y.length, Value.string sy] 40)).heap.size by first | exact Nat.le_refl _ | (simp; done) | (simp; omega)))
    have B5 := Lib.hid (B4.out.trans (d5.mono B4.out.size))
    have Vby_5 := Lib.hid (Vby_4.out.below d5)
    have Oxy_5 := Lib.hid (Oxy.out.below d5)
    have Vxy_5 := Lib.hid ((Lvar.new w4 #[Value.bool py, Value.slice Xy y.length y.length, Value.string sy] 40).below b5)
    clear Vby_4 Oxy c_Vby_0 c_Vby_1 c_Vby_2 lt_Vby b5 d5
    have c_Vby_0 := Vby_5.out.cell 0 _ rfl
    have c_Vby_1 := Vby_5.out.cell 1 _ rfl
    have c_Vby_2 := Vby_5.out.cell 2 _ rfl
    have lt_Vby := Vby_5.out.lt
    have c_Vxy_0 := Vxy_5.out.cell 0 _ rfl
    have c_Vxy_1 := Vxy_5.out.cell 1 _ rfl
    have c_Vxy_2 := Vxy_5.out.cell 2 _ rfl
    have lt_Vxy := Vxy_5.out.lt
    go_wp2_with fail
    go_region_held3 (fun w' => w'.cell? ⟨w4.heap.size, 0, none⟩ = some (Value.bool py) ∧ w'.cell? ⟨w4.heap.size, 1, none⟩ = some (Value.slice Xy y.length y.length) ∧ w'.cell? ⟨w4.heap.size, 2, none⟩ = some (Value.string sy) ∧ w'.cell? ⟨w0.heap.size, 0, none⟩ = some (Value.bool py) ∧ w'.cell? ⟨w0.heap.size, 1, none⟩ = some (Value.slice Ay y.length cy) ∧ w'.cell? ⟨w0.heap.size, 2, none⟩ = some (Value.string sy))
      (first | exact ⟨(((Vxy_5.out.below (Below.refl _ _).drew).below b6).below b7).cell 0 _ rfl, (((Vxy_5.out.below (Below.refl _ _).drew).below b6).below b7).cell 1 _ rfl, (((Vxy_5.out.below (Below.refl _ _).drew).below b6).below b7).cell 2 _ rfl, (((Vby_5.out.below (Below.refl _ _).drew).below b6).below b7).cell 0 _ rfl, (((Vby_5.out.below (Below.refl _ _).drew).below b6).below b7).cell 1 _ rfl, (((Vby_5.out.below (Below.refl _ _).drew).below b6).below b7).cell 2 _ rfl⟩ | exact ⟨((Vxy_5.out.below (Below.refl _ _).drew).below b6).cell 0 _ rfl, ((Vxy_5.out.below (Below.refl _ _).drew).below b6).cell 1 _ rfl, ((Vxy_5.out.below (Below.refl _ _).drew).below b6).cell 2 _ rfl, ((Vby_5.out.below (Below.refl _ _).drew).below b6).cell 0 _ rfl, ((Vby_5.out.below (Below.refl _ _).drew).below b6).cell 1 _ rfl, ((Vby_5.out.below (Below.refl _ _).drew).below b6).cell 2 _ rfl⟩ | go_keep)
      (first
        | (go_at_call 14; refine (Calls.mono (ArgK.copy py sy Ay cy y _ (hy.below B5.out.drew) hny)) ?_; rintro e w6 ⟨C5, rfl, oc5, b6⟩)
        | (go_at_call 16; refine (Calls.mono (ArgK.eq_same py sy Xy C5 y.length y.length y _ ((Oxy_5.out.below (Below.refl _ _).drew).below b6).arg oc5.arg hny)) ?_; rintro e w7 ⟨rfl, b7⟩))
    have h6 : w5.heap.size ≤ w6.heap.size := b6.size
    have h7 : w6.heap.size ≤ w7.heap.size := b7.size
    have d7 : Below w5.heap.size w5 w7 := (((Below.refl w5.heap.size w5).drew.trans (b6.mono (show w5.heap.size ≤ w5.heap.size by omega))).trans (b7.mono (show w5.heap.size ≤ w6.heap.size by omega)))
    have hs7 := d7.size
    have B7 := Lib.hid (B5.out.trans (d7.mono B5.out.size))
    have Vby_7 := Lib.hid (Vby_5.out.below d7)
    have Oxy_7 := Lib.hid (Oxy_5.out.below d7)
    have Vxy_7 := Lib.hid (Vxy_5.out.below d7)
    clear Vby_5 Oxy_5 Vxy_5 c_Vby_0 c_Vby_1 c_Vby_2 lt_Vby c_Vxy_0 c_Vxy_1 c_Vxy_2 lt_Vxy b6 h6 b7 h7 d7
    clear oc5
    have c_Vby_0 := Vby_7.out.cell 0 _ rfl
    have c_Vby_1 := Vby_7.out.cell 1 _ rfl
    have c_Vby_2 := Vby_7.out.cell 2 _ rfl
    have lt_Vby := Vby_7.out.lt
    have c_Vxy_0 := Vxy_7.out.cell 0 _ rfl
    have c_Vxy_1 := Vxy_7.out.cell 1 _ rfl
    have c_Vxy_2 := Vxy_7.out.cell 2 _ rfl
    have lt_Vxy := Vxy_7.out.lt
    go_wp2
    go_ret
    exact ⟨rfl, B7.out⟩
  · simp only [if_neg hty] at SZ
    have HS0 := Lib.hid SZ
    clear SZ hleny hwfy hbsy
    have B0 := Lib.hid (Below.refl w0.heap.size w0)
    go_enter Try.func4, Try.ntmps4
    go_wp2_with fail
    refine (Calls.mono (HS0.out _ (hy.below (B0.out.trans (((Below.refl w0.heap.size w0).alloc (by first | (simp; done) | (simp; omega)) (Obj.cells #[Value.bool py, Value.slice Ay y.length cy, Value.string sy] 35)).mono B0.out.size))))) ?_
    rintro e w1 ⟨rfl, b1⟩
    have hs1 : (w0.alloc (Obj.cells #[Value.bool py, Value.slice Ay y.length cy, Value.string sy] 35)).heap.size ≤ w1.heap.size := b1.size
    simp only [World.size_alloc] at hs1
    have d1 : Below w0.heap.size w0 w1 := ((Below.refl w0.heap.size w0).alloc (by first | (simp; done) | (simp; omega)) (Obj.cells #[Value.bool py, Value.slice Ay y.length cy, Value.string sy] 35)).trans (b1.mono (show w0.heap.size ≤ (w0.alloc (Obj.cells #[Value.bool py, Value.slice Ay y.length cy, Value.string sy] 35)).heap.size by first | exact Nat.le_refl _ | (simp; done) | (simp; omega)))
    have B1 := Lib.hid (B0.out.trans (d1.mono B0.out.size))
    have Vby_1 := Lib.hid ((Lvar.new w0 #[Value.bool py, Value.slice Ay y.length cy, Value.string sy] 35).below b1)
    clear b1 d1
    have c_Vby_0 := Vby_1.out.cell 0 _ rfl
    have c_Vby_1 := Vby_1.out.cell 1 _ rfl
    have c_Vby_2 := Vby_1.out.cell 2 _ rfl
    have lt_Vby := Vby_1.out.lt
    go_wp2
    go_ret
    exact ⟨rfl, B1.out⟩

set_option maxRecDepth 100000 in
theorem lifted (os : Os) (started : os.Started) (H : Type) (enc : TypeId × Value → H) :
    ReturnsInHanded {} Try.checked os 4 .any (Rows.fnExactIsValidArgSpec.pre6 enc Try.prog Try.f4 Rows.fnExactIsValidArgRow.domain false) (Rows.fnExactIsValidArgSpec.post enc Try.prog Try.f4 false true false false) := by
  refine returnsInHanded_of_change (C := Try.checked) Frame.own started (by kernel_rfl) Try.func4
    (ChangeSpec.witness6 (enc := enc) (C := Try.checked) false ⟨#[], #[.agg #[.bool false, .slice none 0 0, .string .empty]], []⟩ 8 (by kernel_rfl) (by kernel_rfl) (by kernel_rfl) (by kernel_rfl)) ?_
  intro W base args ds gs before hval0 hW _ _
  have hW' := hW
  have hval : ∀ (j : Nat) t v, Try.f4.params[j]? = some t → args[j]? = some v → Value.okWide Try.prog W .any base t v := hval0
  obtain ⟨p, q, hA0, hV, rfl, hfz, hnd⟩ := hW
  have hA : DataW.TrodAll enc Try.prog W 0 (fun _ => true) true Try.f4.params.toList args.toList ds p := hA0
  rw [Try.params4] at hA hval
  obtain ⟨v0, d0, rfl, rfl, h0⟩ := trodAll_one hA
  have hlt := fun x hx => hW'.lt x hx
  obtain ⟨rfl, rfl⟩ := trodVars_none hV
  obtain ⟨py, ay, cy, y, sy, rfl, hry, hly, hsy, hby⟩ := Frame.open_arg (W := W) isSum Try.underlying35 (by kernel_rfl) (by kernel_rfl) rfl rfl rfl Try.underlying4 Try.underlying33 (hval 0 35 v0 rfl rfl) h0 (fun x hx => hlt x (by simp [hx]))
  refine (walk py sy ay cy y W hry hly hsy hby).mono fun e W' ⟨he, hb⟩ => ?_
  subst he
  exact ⟨_, rfl, Frame.law_post (tb := 4) Frame.laidOut (by kernel_rfl) (by kernel_rfl) (by kernel_rfl) Try.underlying4 hW' rfl hb⟩

theorem proved : Rows.FnExactIsValidArgSaid :=
  OpenClaim.holds_of_wide 4 Try.f4 rfl rfl rfl rfl rfl rfl rfl ⟨rfl, rfl, rfl, rfl, rfl⟩ rfl rfl rfl rfl rfl (by kernel_rfl) Try.func4 (by kernel_rfl)
    (of_decide_eq_true (by kernel_rfl)) (by unfold Func.isWrapper; first | (rw [if_pos (by decide +kernel)]; kernel_rfl) | (rw [if_neg (by decide +kernel)]; exact ⟨rfl, rfl⟩))
    (fun os started H enc _ => lifted os started H enc)
end LawIsValidArg
end Go.Proofs.Ytaepfdgfjcdidaa
