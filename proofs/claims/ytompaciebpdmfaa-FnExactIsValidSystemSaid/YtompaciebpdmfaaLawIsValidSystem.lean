import Derived.Test.YtompaciebpdmfaaRows
import Derived.Test.YtompaciebpdmfaaFrame
import Derived.Test.YtompaciebpdmfaaFrameSys
import Derived.Test.YtompaciebpdmfaaSysOwn
import Derived.Deep.RegionHeld3
import Derived.Test.YtompaciebpdmfaaSysImpl
import Derived.SliceStrings
/- At every system, impl.IsValidSystem answers as its model and writes nothing into its argument: the law FnExactIsValidSystem returns true. There is no condition. -/
namespace Go.Proofs.Ytompaciebpdmfaa
open Go.ChangeShapes Go.WideShapes Go.ChangeAt Go.RowKit
open Go.ChangeMaps (open_string shut_string)
namespace LawIsValidSystem
theorem isLin : Frame.IsLin Try.prog 49 3 27 :=
  ⟨⟨_, _, Try.underlying49, rfl, rfl, rfl, rfl⟩, Try.underlying3, Try.underlying27, by kernel_rfl, by kernel_rfl, by kernel_rfl⟩

open RowK
set_option maxHeartbeats 2000000 in
set_option maxRecDepth 100000 in
theorem walk (ns : Int) (As : Option Addr) (cs : Nat) (s : List (Int × List Int)) (w0 : World) (hs : SysK.Arg w0 As s.length cs s) (hlen : s.length ≤ 9223372036854775807) (hwf : ∀ x ∈ s, Frame.WfLin x) :
    Calls Try.prog 4 #[.agg #[.int .i64 ns, .slice As s.length cs]] w0 fun e w' => e = .returned (.bool true) ∧ Below w0.heap.size w0 w' := by
  have SZ := fun W (h : SysK.Arg W As s.length cs s) => SysK.size ns As cs 1048576 s W h (by omega) hlen (fun x hx => (hwf x hx).2.1)
  unfold IntK.leftOf at SZ
  by_cases ht : Mem.linsSize s ≤ 1048576
  · simp only [if_pos ht] at SZ
    have HS := Lib.hid SZ
    have hns : Mem.linsSize s ≤ 1000000000 := by omega
    clear SZ hlen hwf
    have B0 := Lib.hid (Below.refl w0.heap.size w0)
    go_enter Try.func4, Try.ntmps4
    go_wp2_with fail
    refine (Calls.mono (HS.out _ (hs.below (B0.out.trans (((Below.refl w0.heap.size w0).alloc (by first | (simp; done) | (simp; omega)) (Obj.cells #[Value.int .i64 ns, Value.slice As s.length cs] 42)).mono B0.out.size))))) ?_
    rintro e w1 ⟨rfl, b1⟩
    have hs1 : (w0.alloc (Obj.cells #[Value.int .i64 ns, Value.slice As s.length cs] 42)).heap.size ≤ w1.heap.size := b1.size
    simp only [World.size_alloc] at hs1
    have d1 : Below w0.heap.size w0 w1 := ((Below.refl w0.heap.size w0).alloc (by first | (simp; done) | (simp; omega)) (Obj.cells #[Value.int .i64 ns, Value.slice As s.length cs] 42)).trans (b1.mono (show w0.heap.size ≤ (w0.alloc (Obj.cells #[Value.int .i64 ns, Value.slice As s.length cs] 42)).heap.size by first | exact Nat.le_refl _ | (simp; done) | (simp; omega)))
    have B1 := Lib.hid (B0.out.trans (d1.mono B0.out.size))
    have Va_1 := Lib.hid ((Lvar.new w0 #[Value.int .i64 ns, Value.slice As s.length cs] 42).below b1)
    clear b1 d1
    have c_Va_0 := Va_1.out.cell 0 _ rfl
    have c_Va_1 := Va_1.out.cell 1 _ rfl
    have lt_Va := Va_1.out.lt
    go_wp2_with fail
    refine (Calls.mono (SysK.copy ns As cs s _ (hs.below B1.out) hns)) ?_
    rintro e w2 ⟨X0, rfl, ot, b2⟩
    have Ot := Lib.hid (show SysK.Own (w1.heap.size) w2.heap.size w2 X0 s.length s.length s from ot)
    have hs2 : w1.heap.size ≤ w2.heap.size := b2.size
    have d2 : Below w1.heap.size w1 w2 := (Below.refl w1.heap.size w1).trans (b2.mono (show w1.heap.size ≤ w1.heap.size by first | exact Nat.le_refl _ | (simp; done) | (simp; omega)))
    have B2 := Lib.hid (B1.out.trans (d2.mono B1.out.size))
    have Va_2 := Lib.hid (Va_1.out.below d2)
    clear Va_1 c_Va_0 c_Va_1 lt_Va b2 d2
    clear ot
    have c_Va_0 := Va_2.out.cell 0 _ rfl
    have c_Va_1 := Va_2.out.cell 1 _ rfl
    have lt_Va := Va_2.out.lt
    go_wp2_with fail
    refine (Calls.mono (SysK.valid ns X0 s.length s _ Ot.out.arg hns)) ?_
    rintro e w3 ⟨rfl, b3⟩
    have hs3 : w2.heap.size ≤ w3.heap.size := b3.size
    have d3 : Below w2.heap.size w2 w3 := (Below.refl w2.heap.size w2).trans (b3.mono (show w2.heap.size ≤ w2.heap.size by first | exact Nat.le_refl _ | (simp; done) | (simp; omega)))
    have B3 := Lib.hid (B2.out.trans (d3.mono B2.out.size))
    have Va_3 := Lib.hid (Va_2.out.below d3)
    have Ot_3 := Lib.hid (Ot.out.below d3)
    clear Va_2 Ot c_Va_0 c_Va_1 lt_Va b3 d3
    clear Ot_3
    have c_Va_0 := Va_3.out.cell 0 _ rfl
    have c_Va_1 := Va_3.out.cell 1 _ rfl
    have lt_Va := Va_3.out.lt
    go_wp2_with fail
    refine (Calls.mono (SysK.copy ns As cs s _ (hs.below B3.out) hns)) ?_
    rintro e w4 ⟨X1, rfl, ox, b4⟩
    have Ox := Lib.hid (show SysK.Own (w3.heap.size) w4.heap.size w4 X1 s.length s.length s from ox)
    have hs4 : w3.heap.size ≤ w4.heap.size := b4.size
    have d4 : Below w3.heap.size w3 w4 := (Below.refl w3.heap.size w3).trans (b4.mono (show w3.heap.size ≤ w3.heap.size by first | exact Nat.le_refl _ | (simp; done) | (simp; omega)))
    have B4 := Lib.hid (B3.out.trans (d4.mono B3.out.size))
    have Va_4 := Lib.hid (Va_3.out.below d4)
    clear Va_3 c_Va_0 c_Va_1 lt_Va b4 d4
    clear ox
    have c_Va_0 := Va_4.out.cell 0 _ rfl
    have c_Va_1 := Va_4.out.cell 1 _ rfl
    have lt_Va := Va_4.out.lt
    go_wp2_with fail
    refine (Calls.mono (SysI.valid ns X1 s.length s _ (Ox.out.below ((Below.refl w4.heap.size w4).alloc (by first | (simp; done) | (simp; omega)) (Obj.cells #[Value.int .i64 ns, Value.slice X1 s.length s.length] 26))).arg hns)) ?_
    rintro e w5 ⟨rfl, b5⟩
    have hs5 : (w4.alloc (Obj.cells #[Value.int .i64 ns, Value.slice X1 s.length s.length] 26)).heap.size ≤ w5.heap.size := b5.size
    simp only [World.size_alloc] at hs5
    have d5 : Below w4.heap.size w4 w5 := ((Below.refl w4.heap.size w4).alloc (by first | (simp; done) | (simp; omega)) (Obj.cells #[Value.int .i64 ns, Value.slice X1 s.length s.length] 26)).trans (b5.mono (show w4.heap.size ≤ (w4.alloc (Obj.cells #[Value.int .i64 ns, Value.slice X1 s.length s.length] 26)).heap.size by first | exact Nat.le_refl _ | (simp; done) | (simp; omega)))
    have B5 := Lib.hid (B4.out.trans (d5.mono B4.out.size))
    have Va_5 := Lib.hid (Va_4.out.below d5)
    have Ox_5 := Lib.hid (Ox.out.below d5)
    have Vx_5 := Lib.hid ((Lvar.new w4 #[Value.int .i64 ns, Value.slice X1 s.length s.length] 26).below b5)
    clear Va_4 Ox c_Va_0 c_Va_1 lt_Va b5 d5
    have c_Va_0 := Va_5.out.cell 0 _ rfl
    have c_Va_1 := Va_5.out.cell 1 _ rfl
    have lt_Va := Va_5.out.lt
    have c_Vx_0 := Vx_5.out.cell 0 _ rfl
    have c_Vx_1 := Vx_5.out.cell 1 _ rfl
    have lt_Vx := Vx_5.out.lt
    go_wp2_with fail
    go_region_held3 (fun w' => w'.cell? ⟨w4.heap.size, 0, none⟩ = some (Value.int .i64 ns) ∧ w'.cell? ⟨w4.heap.size, 1, none⟩ = some (Value.slice X1 s.length s.length) ∧ w'.cell? ⟨w0.heap.size, 0, none⟩ = some (Value.int .i64 ns) ∧ w'.cell? ⟨w0.heap.size, 1, none⟩ = some (Value.slice As s.length cs))
      (first | exact ⟨(((Vx_5.out.below (Below.refl _ _).drew).below b6).below b7).cell 0 _ rfl, (((Vx_5.out.below (Below.refl _ _).drew).below b6).below b7).cell 1 _ rfl, (((Va_5.out.below (Below.refl _ _).drew).below b6).below b7).cell 0 _ rfl, (((Va_5.out.below (Below.refl _ _).drew).below b6).below b7).cell 1 _ rfl⟩ | exact ⟨((Vx_5.out.below (Below.refl _ _).drew).below b6).cell 0 _ rfl, ((Vx_5.out.below (Below.refl _ _).drew).below b6).cell 1 _ rfl, ((Va_5.out.below (Below.refl _ _).drew).below b6).cell 0 _ rfl, ((Va_5.out.below (Below.refl _ _).drew).below b6).cell 1 _ rfl⟩ | go_keep)
      (first
        | (go_at_call 21; refine (Calls.mono (SysK.copy ns As cs s _ (hs.below B5.out.drew) hns)) ?_; rintro e w6 ⟨C5, rfl, oc5, b6⟩)
        | (go_at_call 22; refine (Calls.mono (SysK.eq_same ns X1 C5 s.length s.length s _ ((Ox_5.out.below (Below.refl _ _).drew).below b6).arg oc5.arg hns)) ?_; rintro e w7 ⟨rfl, b7⟩))
    have h6 : w5.heap.size ≤ w6.heap.size := b6.size
    have h7 : w6.heap.size ≤ w7.heap.size := b7.size
    have d7 : Below w5.heap.size w5 w7 := (((Below.refl w5.heap.size w5).drew.trans (b6.mono (show w5.heap.size ≤ w5.heap.size by omega))).trans (b7.mono (show w5.heap.size ≤ w6.heap.size by omega)))
    have hs7 := d7.size
    have B7 := Lib.hid (B5.out.trans (d7.mono B5.out.size))
    have Va_7 := Lib.hid (Va_5.out.below d7)
    have Ox_7 := Lib.hid (Ox_5.out.below d7)
    have Vx_7 := Lib.hid (Vx_5.out.below d7)
    clear Va_5 Ox_5 Vx_5 c_Va_0 c_Va_1 lt_Va c_Vx_0 c_Vx_1 lt_Vx b6 h6 b7 h7 d7
    clear oc5
    have c_Va_0 := Va_7.out.cell 0 _ rfl
    have c_Va_1 := Va_7.out.cell 1 _ rfl
    have lt_Va := Va_7.out.lt
    have c_Vx_0 := Vx_7.out.cell 0 _ rfl
    have c_Vx_1 := Vx_7.out.cell 1 _ rfl
    have lt_Vx := Vx_7.out.lt
    go_wp2
    go_ret
    exact ⟨rfl, B7.out⟩
  · simp only [if_neg ht] at SZ
    have HS := Lib.hid SZ
    have s0 : Below w0.heap.size w0 (w0.alloc (Obj.cells #[Value.int .i64 ns, Value.slice As s.length cs] 42)) := (Below.refl _ _).alloc (Nat.le_refl _) _
    have S0 := Lib.hid s0
    clear SZ hlen hwf s0
    go_enter Try.func4, Try.ntmps4
    go_wp2_with fail
    refine (HS.out _ (hs.below S0.out)).mono ?_
    rintro e w1 ⟨rfl, b1⟩
    go_wp2
    go_ret
    exact ⟨rfl, S0.out.trans (b1.mono S0.out.size)⟩

set_option maxRecDepth 100000 in
theorem lifted (os : Os) (started : os.Started) (H : Type) (enc : TypeId × Value → H) :
    ReturnsInHanded {} Try.checked os 4 .any (Rows.fnExactIsValidSystemSpec.pre6 enc Try.prog Try.f4 Rows.fnExactIsValidSystemRow.domain false) (Rows.fnExactIsValidSystemSpec.post enc Try.prog Try.f4 false true false false) := by
  refine returnsInHanded_of_change (C := Try.checked) Frame.own started (by kernel_rfl) Try.func4
    (ChangeSpec.witness6 (enc := enc) (C := Try.checked) false ⟨#[], #[.agg #[.int .i64 0, .slice none 0 0]], []⟩ 8 (by kernel_rfl) (by kernel_rfl) (by kernel_rfl) (by kernel_rfl)) ?_
  intro W base args ds gs before hval0 hW _ _
  have hW' := hW
  have hval : ∀ (j : Nat) t v, Try.f4.params[j]? = some t → args[j]? = some v → Value.okWide Try.prog W .any base t v := hval0
  obtain ⟨p, q, hA0, hV, rfl, hfz, hnd⟩ := hW
  have hA : DataW.TrodAll enc Try.prog W 0 (fun _ => true) true Try.f4.params.toList args.toList ds p := hA0
  rw [Try.params4] at hA hval
  obtain ⟨v0, d0, rfl, rfl, h0⟩ := trodAll_one hA
  have hlt := fun x hx => hW'.lt x hx
  obtain ⟨rfl, rfl⟩ := trodVars_none hV
  obtain ⟨ny, ay, cy, fpy, y, rfl, wy, hry, hly, hsy⟩ := Frame.open_sys (W := W) isLin Try.underlying42 (by kernel_rfl) (by kernel_rfl) rfl rfl Try.underlying40 (hval 0 42 v0 rfl rfl) h0 (fun x hx => hlt x (by simp [hx]))
  refine (walk ny ay cy y W ⟨_, _, hry⟩ hly hsy).mono fun e W' ⟨he, hb⟩ => ?_
  subst he
  exact ⟨_, rfl, Frame.law_post (tb := 4) Frame.laidOut (by kernel_rfl) (by kernel_rfl) (by kernel_rfl) Try.underlying4 hW' rfl hb⟩

theorem proved : Rows.FnExactIsValidSystemSaid :=
  OpenClaim.holds_of_wide 4 Try.f4 rfl rfl rfl rfl rfl rfl rfl ⟨rfl, rfl, rfl, rfl, rfl⟩ rfl rfl rfl rfl rfl (by kernel_rfl) Try.func4 (by kernel_rfl)
    (of_decide_eq_true (by kernel_rfl)) (by unfold Func.isWrapper; first | (rw [if_pos (by decide +kernel)]; kernel_rfl) | (rw [if_neg (by decide +kernel)]; exact ⟨rfl, rfl⟩))
    (fun os started H enc _ => lifted os started H enc)
end LawIsValidSystem
end Go.Proofs.Ytompaciebpdmfaa
