import Derived.Test.YtaepfdgfjcdidaaRows
import Derived.Test.YtaepfdgfjcdidaaFrame
import Derived.Test.YtaepfdgfjcdidaaFrameArg
import Derived.Test.YtaepfdgfjcdidaaArgOwn
import Derived.Test.YtaepfdgfjcdidaaArgSpec
import Derived.Test.YtaepfdgfjcdidaaArgEqS
import Derived.Deep.RegionHeld3
import Derived.SliceStrings
/- At every argument, impl.IsValidSum answers as its model and writes nothing into its arguments: the law FnExactIsValidSum returns true. There is no condition. -/
namespace Go.Proofs.Ytaepfdgfjcdidaa
open Go.ChangeShapes Go.WideShapes Go.ChangeAt Go.RowKit
open Go.ChangeMaps (open_string shut_string)
namespace LawIsValidSum
theorem isSum : Frame.IsSum Try.prog 24 22 72 3 9 :=
  ⟨⟨_, _, Try.underlying24, rfl, rfl, rfl, rfl⟩, ⟨_, _, Try.underlying72, rfl, rfl, rfl, rfl⟩, Try.underlying3, Try.underlying9, Try.underlying22, by kernel_rfl, by kernel_rfl, by kernel_rfl, by kernel_rfl, by kernel_rfl⟩

open RowK Mem
set_option maxHeartbeats 4000000 in
set_option maxRecDepth 100000 in
theorem walk (zl : Int) (Al : Option Addr) (cl : Nat) (l : List (Int × ByteArray)) (w0 : World) (hl : Mem.ArgS Mem.term w0 Al l.length cl l) (hlenl : l.length ≤ 9223372036854775807) (hwfl : ∀ x ∈ l, Mem.WfTerm x) :
    Calls Try.prog 3 #[.agg #[.int .i64 zl, .slice Al l.length cl]] w0 fun e w' => e = .returned (.bool true) ∧ Below w0.heap.size w0 w' := by
  have SZ := fun W (h : Mem.ArgS Mem.term W Al l.length cl l) => SumK.size zl Al cl 1048576 l W h (by omega) hlenl hwfl
  unfold IntK.leftOf at SZ
  by_cases htl : Mem.termsSize l ≤ 1048576
  · simp only [if_pos htl] at SZ
    have HS0 := Lib.hid SZ
    have hnl : Mem.termsSize l ≤ 1000000000 := by omega
    clear SZ hlenl hwfl
    have B0 := Lib.hid (Below.refl w0.heap.size w0)
    go_enter Try.func3, Try.ntmps3
    go_wp2_with fail
    refine (Calls.mono (HS0.out _ (hl.below (B0.out.trans (((Below.refl w0.heap.size w0).alloc (by first | (simp; done) | (simp; omega)) (Obj.cells #[Value.int .i64 zl, Value.slice Al l.length cl] 24)).mono B0.out.size))))) ?_
    rintro e w1 ⟨rfl, b1⟩
    have hs1 : (w0.alloc (Obj.cells #[Value.int .i64 zl, Value.slice Al l.length cl] 24)).heap.size ≤ w1.heap.size := b1.size
    simp only [World.size_alloc] at hs1
    have d1 : Below w0.heap.size w0 w1 := ((Below.refl w0.heap.size w0).alloc (by first | (simp; done) | (simp; omega)) (Obj.cells #[Value.int .i64 zl, Value.slice Al l.length cl] 24)).trans (b1.mono (show w0.heap.size ≤ (w0.alloc (Obj.cells #[Value.int .i64 zl, Value.slice Al l.length cl] 24)).heap.size by first | exact Nat.le_refl _ | (simp; done) | (simp; omega)))
    have B1 := Lib.hid (B0.out.trans (d1.mono B0.out.size))
    have Vbl_1 := Lib.hid ((Lvar.new w0 #[Value.int .i64 zl, Value.slice Al l.length cl] 24).below b1)
    clear b1 d1
    have c_Vbl_0 := Vbl_1.out.cell 0 _ rfl
    have c_Vbl_1 := Vbl_1.out.cell 1 _ rfl
    have lt_Vbl := Vbl_1.out.lt
    go_wp2_with fail
    refine (Calls.mono (SumK.copy zl Al cl l _ (hl.below B1.out) hnl)) ?_
    rintro e w2 ⟨Tl, rfl, otl, b2⟩
    have Otl := Lib.hid (show Mem.OwnS Mem.term (w1.heap.size) w2.heap.size w2 Tl l.length l.length l from otl)
    have hs2 : w1.heap.size ≤ w2.heap.size := b2.size
    have d2 : Below w1.heap.size w1 w2 := (Below.refl w1.heap.size w1).trans (b2.mono (show w1.heap.size ≤ w1.heap.size by first | exact Nat.le_refl _ | (simp; done) | (simp; omega)))
    have B2 := Lib.hid (B1.out.trans (d2.mono B1.out.size))
    have Vbl_2 := Lib.hid (Vbl_1.out.below d2)
    clear Vbl_1 c_Vbl_0 c_Vbl_1 lt_Vbl b2 d2
    have c_Vbl_0 := Vbl_2.out.cell 0 _ rfl
    have c_Vbl_1 := Vbl_2.out.cell 1 _ rfl
    have lt_Vbl := Vbl_2.out.lt
    go_wp2_with fail
    refine (Calls.mono (ArgP.validSum zl Tl l.length l _ Otl.out.arg (Nat.le_trans (SumK.len_le l) hnl) (SumK.sizes hnl))) ?_
    rintro e w3 ⟨rfl, b3⟩
    have hs3 : w2.heap.size ≤ w3.heap.size := b3.size
    have d3 : Below w2.heap.size w2 w3 := (Below.refl w2.heap.size w2).trans (b3.mono (show w2.heap.size ≤ w2.heap.size by first | exact Nat.le_refl _ | (simp; done) | (simp; omega)))
    have B3 := Lib.hid (B2.out.trans (d3.mono B2.out.size))
    have Vbl_3 := Lib.hid (Vbl_2.out.below d3)
    have Otl_3 := Lib.hid (Otl.out.below d3)
    clear Vbl_2 Otl c_Vbl_0 c_Vbl_1 lt_Vbl b3 d3
    clear Otl_3
    have c_Vbl_0 := Vbl_3.out.cell 0 _ rfl
    have c_Vbl_1 := Vbl_3.out.cell 1 _ rfl
    have lt_Vbl := Vbl_3.out.lt
    go_wp2_with fail
    refine (Calls.mono (SumK.copy zl Al cl l _ (hl.below B3.out) hnl)) ?_
    rintro e w4 ⟨Xl, rfl, oxl, b4⟩
    have Oxl := Lib.hid (show Mem.OwnS Mem.term (w3.heap.size) w4.heap.size w4 Xl l.length l.length l from oxl)
    have hs4 : w3.heap.size ≤ w4.heap.size := b4.size
    have d4 : Below w3.heap.size w3 w4 := (Below.refl w3.heap.size w3).trans (b4.mono (show w3.heap.size ≤ w3.heap.size by first | exact Nat.le_refl _ | (simp; done) | (simp; omega)))
    have B4 := Lib.hid (B3.out.trans (d4.mono B3.out.size))
    have Vbl_4 := Lib.hid (Vbl_3.out.below d4)
    clear Vbl_3 c_Vbl_0 c_Vbl_1 lt_Vbl b4 d4
    have c_Vbl_0 := Vbl_4.out.cell 0 _ rfl
    have c_Vbl_1 := Vbl_4.out.cell 1 _ rfl
    have lt_Vbl := Vbl_4.out.lt
    go_wp2_with fail
    refine (Calls.mono (ArgI.validSum zl Xl l.length l _ (Oxl.out.below ((Below.refl w4.heap.size w4).alloc (by first | (simp; done) | (simp; omega)) (Obj.cells #[Value.int .i64 zl, Value.slice Xl l.length l.length] 29))).arg (Nat.le_trans (SumK.len_le l) hnl) (SumK.sizes hnl))) ?_
    rintro e w5 ⟨rfl, b5⟩
    have hs5 : (w4.alloc (Obj.cells #[Value.int .i64 zl, Value.slice Xl l.length l.length] 29)).heap.size ≤ w5.heap.size := b5.size
    simp only [World.size_alloc] at hs5
    have d5 : Below w4.heap.size w4 w5 := ((Below.refl w4.heap.size w4).alloc (by first | (simp; done) | (simp; omega)) (Obj.cells #[Value.int .i64 zl, Value.slice Xl l.length l.length] 29)).trans (b5.mono (show w4.heap.size ≤ (w4.alloc (Obj.cells #[Value.int .i64 zl, Value.slice Xl l.length l.length] 29)).heap.size by first | exact Nat.le_refl _ | (simp; done) | (simp; omega)))
    have B5 := Lib.hid (B4.out.trans (d5.mono B4.out.size))
    have Vbl_5 := Lib.hid (Vbl_4.out.below d5)
    have Oxl_5 := Lib.hid (Oxl.out.below d5)
    have Vxl_5 := Lib.hid ((Lvar.new w4 #[Value.int .i64 zl, Value.slice Xl l.length l.length] 29).below b5)
    clear Vbl_4 Oxl c_Vbl_0 c_Vbl_1 lt_Vbl b5 d5
    have c_Vbl_0 := Vbl_5.out.cell 0 _ rfl
    have c_Vbl_1 := Vbl_5.out.cell 1 _ rfl
    have lt_Vbl := Vbl_5.out.lt
    have c_Vxl_0 := Vxl_5.out.cell 0 _ rfl
    have c_Vxl_1 := Vxl_5.out.cell 1 _ rfl
    have lt_Vxl := Vxl_5.out.lt
    go_wp2_with fail
    go_region_held3 (fun w' => w'.cell? ⟨w4.heap.size, 0, none⟩ = some (Value.int .i64 zl) ∧ w'.cell? ⟨w4.heap.size, 1, none⟩ = some (Value.slice Xl l.length l.length) ∧ w'.cell? ⟨w0.heap.size, 0, none⟩ = some (Value.int .i64 zl) ∧ w'.cell? ⟨w0.heap.size, 1, none⟩ = some (Value.slice Al l.length cl))
      (first | exact ⟨(((Vxl_5.out.below (Below.refl _ _).drew).below b6).below b7).cell 0 _ rfl, (((Vxl_5.out.below (Below.refl _ _).drew).below b6).below b7).cell 1 _ rfl, (((Vbl_5.out.below (Below.refl _ _).drew).below b6).below b7).cell 0 _ rfl, (((Vbl_5.out.below (Below.refl _ _).drew).below b6).below b7).cell 1 _ rfl⟩ | exact ⟨((Vxl_5.out.below (Below.refl _ _).drew).below b6).cell 0 _ rfl, ((Vxl_5.out.below (Below.refl _ _).drew).below b6).cell 1 _ rfl, ((Vbl_5.out.below (Below.refl _ _).drew).below b6).cell 0 _ rfl, ((Vbl_5.out.below (Below.refl _ _).drew).below b6).cell 1 _ rfl⟩ | go_keep)
      (first
        | (go_at_call 9; refine (Calls.mono (SumK.copy zl Al cl l _ (hl.below B5.out.drew) hnl)) ?_; rintro e w6 ⟨C5, rfl, oc5, b6⟩)
        | (go_at_call 11; refine (Calls.mono (SumK.eq_same zl Xl C5 l.length l.length l _ ((Oxl_5.out.below (Below.refl _ _).drew).below b6).arg oc5.arg hnl)) ?_; rintro e w7 ⟨rfl, b7⟩))
    have h6 : w5.heap.size ≤ w6.heap.size := b6.size
    have h7 : w6.heap.size ≤ w7.heap.size := b7.size
    have d7 : Below w5.heap.size w5 w7 := (((Below.refl w5.heap.size w5).drew.trans (b6.mono (show w5.heap.size ≤ w5.heap.size by omega))).trans (b7.mono (show w5.heap.size ≤ w6.heap.size by omega)))
    have hs7 := d7.size
    have B7 := Lib.hid (B5.out.trans (d7.mono B5.out.size))
    have Vbl_7 := Lib.hid (Vbl_5.out.below d7)
    have Oxl_7 := Lib.hid (Oxl_5.out.below d7)
    have Vxl_7 := Lib.hid (Vxl_5.out.below d7)
    clear Vbl_5 Oxl_5 Vxl_5 c_Vbl_0 c_Vbl_1 lt_Vbl c_Vxl_0 c_Vxl_1 lt_Vxl b6 h6 b7 h7 d7
    clear oc5
    have c_Vbl_0 := Vbl_7.out.cell 0 _ rfl
    have c_Vbl_1 := Vbl_7.out.cell 1 _ rfl
    have lt_Vbl := Vbl_7.out.lt
    have c_Vxl_0 := Vxl_7.out.cell 0 _ rfl
    have c_Vxl_1 := Vxl_7.out.cell 1 _ rfl
    have lt_Vxl := Vxl_7.out.lt
    go_wp2
    go_ret
    exact ⟨rfl, B7.out⟩
  · simp only [if_neg htl] at SZ
    have HS0 := Lib.hid SZ
    clear SZ hlenl hwfl
    have B0 := Lib.hid (Below.refl w0.heap.size w0)
    go_enter Try.func3, Try.ntmps3
    go_wp2_with fail
    refine (Calls.mono (HS0.out _ (hl.below (B0.out.trans (((Below.refl w0.heap.size w0).alloc (by first | (simp; done) | (simp; omega)) (Obj.cells #[Value.int .i64 zl, Value.slice Al l.length cl] 24)).mono B0.out.size))))) ?_
    rintro e w1 ⟨rfl, b1⟩
    have hs1 : (w0.alloc (Obj.cells #[Value.int .i64 zl, Value.slice Al l.length cl] 24)).heap.size ≤ w1.heap.size := b1.size
    simp only [World.size_alloc] at hs1
    have d1 : Below w0.heap.size w0 w1 := ((Below.refl w0.heap.size w0).alloc (by first | (simp; done) | (simp; omega)) (Obj.cells #[Value.int .i64 zl, Value.slice Al l.length cl] 24)).trans (b1.mono (show w0.heap.size ≤ (w0.alloc (Obj.cells #[Value.int .i64 zl, Value.slice Al l.length cl] 24)).heap.size by first | exact Nat.le_refl _ | (simp; done) | (simp; omega)))
    have B1 := Lib.hid (B0.out.trans (d1.mono B0.out.size))
    have Vbl_1 := Lib.hid ((Lvar.new w0 #[Value.int .i64 zl, Value.slice Al l.length cl] 24).below b1)
    clear b1 d1
    have c_Vbl_0 := Vbl_1.out.cell 0 _ rfl
    have c_Vbl_1 := Vbl_1.out.cell 1 _ rfl
    have lt_Vbl := Vbl_1.out.lt
    go_wp2
    go_ret
    exact ⟨rfl, B1.out⟩

set_option maxRecDepth 100000 in
theorem lifted (os : Os) (started : os.Started) (H : Type) (enc : TypeId × Value → H) :
    ReturnsInHanded {} Try.checked os 3 .any (Rows.fnExactIsValidSumSpec.pre6 enc Try.prog Try.f3 Rows.fnExactIsValidSumRow.domain false) (Rows.fnExactIsValidSumSpec.post enc Try.prog Try.f3 false true false false) := by
  refine returnsInHanded_of_change (C := Try.checked) Frame.own started (by kernel_rfl) Try.func3
    (ChangeSpec.witness6 (enc := enc) (C := Try.checked) false ⟨#[], #[.agg #[.int .i64 0, .slice none 0 0]], []⟩ 8 (by kernel_rfl) (by kernel_rfl) (by kernel_rfl) (by kernel_rfl)) ?_
  intro W base args ds gs before hval0 hW _ _
  have hW' := hW
  have hval : ∀ (j : Nat) t v, Try.f3.params[j]? = some t → args[j]? = some v → Value.okWide Try.prog W .any base t v := hval0
  obtain ⟨p, q, hA0, hV, rfl, hfz, hnd⟩ := hW
  have hA : DataW.TrodAll enc Try.prog W 0 (fun _ => true) true Try.f3.params.toList args.toList ds p := hA0
  rw [Try.params3] at hA hval
  obtain ⟨v0, d0, rfl, rfl, h0⟩ := trodAll_one hA
  have hlt := fun x hx => hW'.lt x hx
  obtain ⟨rfl, rfl⟩ := trodVars_none hV
  obtain ⟨zl, al, cl, l, rfl, wl, hrl, hll, hsl⟩ := Frame.open_sum (W := W) isSum Try.underlying24 (by kernel_rfl) rfl rfl (hval 0 24 v0 rfl rfl) h0 (fun x hx => hlt x (by simp [hx]))
  refine (walk zl al cl l W hrl hll hsl).mono fun e W' ⟨he, hb⟩ => ?_
  subst he
  exact ⟨_, rfl, Frame.law_post (tb := 4) Frame.laidOut (by kernel_rfl) (by kernel_rfl) (by kernel_rfl) Try.underlying4 hW' rfl hb⟩

theorem proved : Rows.FnExactIsValidSumSaid :=
  OpenClaim.holds_of_wide 3 Try.f3 rfl rfl rfl rfl rfl rfl rfl ⟨rfl, rfl, rfl, rfl, rfl⟩ rfl rfl rfl rfl rfl (by kernel_rfl) Try.func3 (by kernel_rfl)
    (of_decide_eq_true (by kernel_rfl)) (by unfold Func.isWrapper; first | (rw [if_pos (by decide +kernel)]; kernel_rfl) | (rw [if_neg (by decide +kernel)]; exact ⟨rfl, rfl⟩))
    (fun os started H enc _ => lifted os started H enc)
end LawIsValidSum
end Go.Proofs.Ytaepfdgfjcdidaa
