import Derived.Test.YtaepfdgfjcdidaaDoorCards
import Derived.Test.YtaepfdgfjcdidaaDoorTie
import Derived.Test.YtaepfdgfjcdidaaDoorFrame
import Derived.Test.YtaepfdgfjcdidaaDoorFrameArg
import Derived.Test.YtaepfdgfjcdidaaDoorReps
import Derived.Test.YtaepfdgfjcdidaaDoorArgFmtS
import Derived.Deep.RegionHeld3
import Derived.SliceStrings
import Derived.LaidMore
import Derived.LaidSub
import Derived.MakeChecks
import Derived.Deep.DeepWitnessRowRef
import Derived.SevenTiedAt
/- At every sum, impl.FormatSum answers as its model and writes nothing into its argument: the law FnExactFormatSum returns true. Its condition: the listed tables of the library hold what their text lays. -/
namespace Go.Proofs.YtaepfdgfjcdidaaDoor
open Go.ChangeShapes Go.WideShapes Go.ChangeAt Go.RowKit
open Go.ChangeMaps (open_string shut_string)
namespace LawFormatSum

theorem isSum : Frame.IsSum Tryd.prog 24 22 48 3 9 :=
  ⟨⟨_, _, Tryd.underlying24, rfl, rfl, rfl, rfl⟩, ⟨_, _, Tryd.underlying48, rfl, rfl, rfl, rfl⟩, Tryd.underlying3, Tryd.underlying9, Tryd.underlying22, by kernel_rfl, by kernel_rfl, by kernel_rfl, by kernel_rfl, by kernel_rfl⟩

theorem pow {W : World} (h : laidMetH Tryd.prog Rows.fnExactFormatSumRow.laid W) : FmtI.Pow W := by
  have h1 := laidMetH.filter (fun x => x.1 == "internal/strconv.uint64pow10") h
  rw [MakeChecks.laidMetH_plain _ _ _ (by kernel_rfl)] at h1
  exact Lib.tabIs_of_head (P := Tryd.prog) (rest := []) (g := 0) (t := 104) (e := 88) (n := 20) (by kernel_rfl) (by kernel_rfl) Tryd.underlying104 Tryd.underlying88 (by kernel_rfl) (by kernel_rfl) h1

open RowK Mem
set_option maxHeartbeats 4000000 in
set_option maxRecDepth 100000 in
theorem walk (zl : Int) (Al : Option Addr) (cl : Nat) (l : List (Int × ByteArray)) (w0 : World) (hl : Mem.ArgS Mem.term w0 Al l.length cl l) (hlenl : l.length ≤ 9223372036854775807) (hwfl : ∀ x ∈ l, Mem.WfTerm x) (hp : FmtI.Pow w0) :
    Calls Tryd.prog 3 #[.agg #[.int .i64 zl, .slice Al l.length cl]] w0 fun e w' => e = .returned (.bool true) ∧ Below w0.heap.size w0 w' := by
  have SZ := fun W (h : Mem.ArgS Mem.term W Al l.length cl l) => SumK.size zl Al cl 1048576 l W h (by omega) hlenl hwfl
  unfold IntK.leftOf at SZ
  by_cases htl : Mem.termsSize l ≤ 1048576
  · simp only [if_pos htl] at SZ
    have HS0 := Lib.hid SZ
    have hnl : Mem.termsSize l ≤ 1000000000 := by omega
    clear SZ hlenl hwfl
    have hl9 : l.length ≤ 1000000000 := Nat.le_trans (SumK.len_le l) hnl
    have SP := Lib.hid (fun A c W (h : Mem.ArgS Mem.term W A l.length c l) => ArgP.formatSum zl A c l W h hl9 (SumK.sizes hnl))
    have IM := Lib.hid (fun A c W (h : Mem.ArgS Mem.term W A l.length c l) => ArgI.formatSum zl A c l W h hl9 (SumK.sizes hnl))
    have HP := Lib.hid hp
    clear hp
    generalize ArgM.FS (zl, l) = FF at *
    have B0 := Lib.hid (Below.refl w0.heap.size w0)
    go_enter Tryd.func3, Tryd.ntmps3
    go_wp2_with fail
    refine (Calls.mono (HS0.out _ (hl.below (B0.out.trans (((Below.refl w0.heap.size w0).alloc (by first | (simp; done) | (simp; omega)) (Obj.cells #[Value.int .i64 zl, Value.slice Al l.length cl] 24)).mono B0.out.size))))) ?_
    rintro e w1 ⟨rfl, b1⟩
    have hs1 : (w0.alloc (Obj.cells #[Value.int .i64 zl, Value.slice Al l.length cl] 24)).heap.size ≤ w1.heap.size := b1.size
    simp only [World.size_alloc] at hs1
    have d1 : Below w0.heap.size w0 w1 := ((Below.refl w0.heap.size w0).alloc (by first | (simp; done) | (simp; omega)) (Obj.cells #[Value.int .i64 zl, Value.slice Al l.length cl] 24)).trans (b1.mono (show w0.heap.size ≤ (w0.alloc (Obj.cells #[Value.int .i64 zl, Value.slice Al l.length cl] 24)).heap.size by first | exact Nat.le_refl _ | (simp; done) | (simp; omega)))
    have B1 := Lib.hid (B0.out.trans (d1.mono B0.out.size))
    have Vbl_1 := Lib.hid ((Lvar.new w0 #[Value.int .i64 zl, Value.slice Al l.length cl] 24).below b1)
    clear b1 d1
    have c_Vbl_0 := Vbl_1.out.cell 0 _ rfl
    have c_Vbl_1 := Vbl_1.out.cell 1 _ rfl
    have lt_Vbl := Vbl_1.out.lt
    go_wp2_with fail
    refine (Calls.mono (SumK.copy zl Al cl l _ (hl.below B1.out) hnl)) ?_
    rintro e w2 ⟨Tl, rfl, otl, b2⟩
    have Otl := Lib.hid (show Mem.OwnS Mem.term (w1.heap.size) w2.heap.size w2 Tl l.length l.length l from otl)
    have hs2 : w1.heap.size ≤ w2.heap.size := b2.size
    have d2 : Below w1.heap.size w1 w2 := (Below.refl w1.heap.size w1).trans (b2.mono (show w1.heap.size ≤ w1.heap.size by first | exact Nat.le_refl _ | (simp; done) | (simp; omega)))
    have B2 := Lib.hid (B1.out.trans (d2.mono B1.out.size))
    have Vbl_2 := Lib.hid (Vbl_1.out.below d2)
    clear Vbl_1 c_Vbl_0 c_Vbl_1 lt_Vbl b2 d2
    have c_Vbl_0 := Vbl_2.out.cell 0 _ rfl
    have c_Vbl_1 := Vbl_2.out.cell 1 _ rfl
    have lt_Vbl := Vbl_2.out.lt
    go_wp2_with fail
    refine (Calls.mono (SP.out Tl l.length _ Otl.out.arg)) ?_
    rintro e w3 ⟨rfl, b3⟩
    have hs3 : w2.heap.size ≤ w3.heap.size := b3.size
    have d3 : Below w2.heap.size w2 w3 := (Below.refl w2.heap.size w2).trans (b3.mono (show w2.heap.size ≤ w2.heap.size by first | exact Nat.le_refl _ | (simp; done) | (simp; omega)))
    have B3 := Lib.hid (B2.out.trans (d3.mono B2.out.size))
    have Vbl_3 := Lib.hid (Vbl_2.out.below d3)
    have Otl_3 := Lib.hid (Otl.out.below d3)
    clear Vbl_2 Otl c_Vbl_0 c_Vbl_1 lt_Vbl b3 d3
    clear Otl_3
    have c_Vbl_0 := Vbl_3.out.cell 0 _ rfl
    have c_Vbl_1 := Vbl_3.out.cell 1 _ rfl
    have lt_Vbl := Vbl_3.out.lt
    go_wp2_with fail
    refine (Calls.mono (SumK.copy zl Al cl l _ (hl.below B3.out) hnl)) ?_
    rintro e w4 ⟨Xl, rfl, oxl, b4⟩
    have Oxl := Lib.hid (show Mem.OwnS Mem.term (w3.heap.size) w4.heap.size w4 Xl l.length l.length l from oxl)
    have hs4 : w3.heap.size ≤ w4.heap.size := b4.size
    have d4 : Below w3.heap.size w3 w4 := (Below.refl w3.heap.size w3).trans (b4.mono (show w3.heap.size ≤ w3.heap.size by first | exact Nat.le_refl _ | (simp; done) | (simp; omega)))
    have B4 := Lib.hid (B3.out.trans (d4.mono B3.out.size))
    have Vbl_4 := Lib.hid (Vbl_3.out.below d4)
    clear Vbl_3 c_Vbl_0 c_Vbl_1 lt_Vbl b4 d4
    have c_Vbl_0 := Vbl_4.out.cell 0 _ rfl
    have c_Vbl_1 := Vbl_4.out.cell 1 _ rfl
    have lt_Vbl := Vbl_4.out.lt
    go_wp2_with fail
    refine (Calls.mono (IM.out Xl l.length _ (Oxl.out.below ((Below.refl w4.heap.size w4).alloc (by first | (simp; done) | (simp; omega)) (Obj.cells #[Value.int .i64 zl, Value.slice Xl l.length l.length] 29))).arg (HP.out.below (B4.out.trans (((Below.refl w4.heap.size w4).alloc (by first | (simp; done) | (simp; omega)) (Obj.cells #[Value.int .i64 zl, Value.slice Xl l.length l.length] 29)).mono B4.out.size))))) ?_
    rintro e w5 ⟨rfl, b5⟩
    have hs5 : (w4.alloc (Obj.cells #[Value.int .i64 zl, Value.slice Xl l.length l.length] 29)).heap.size ≤ w5.heap.size := b5.size
    simp only [World.size_alloc] at hs5
    have d5 : Below w4.heap.size w4 w5 := ((Below.refl w4.heap.size w4).alloc (by first | (simp; done) | (simp; omega)) (Obj.cells #[Value.int .i64 zl, Value.slice Xl l.length l.length] 29)).trans (b5.mono (show w4.heap.size ≤ (w4.alloc (Obj.cells #[Value.int .i64 zl, Value.slice Xl l.length l.length] 29)).heap.size by first | exact Nat.le_refl _ | (simp; done) | (simp; omega)))
    have B5 := Lib.hid (B4.out.trans (d5.mono B4.out.size))
    have Vbl_5 := Lib.hid (Vbl_4.out.below d5)
    have Oxl_5 := Lib.hid (Oxl.out.below d5)
    have Vxl_5 := Lib.hid ((Lvar.new w4 #[Value.int .i64 zl, Value.slice Xl l.length l.length] 29).below b5)
    clear Vbl_4 Oxl c_Vbl_0 c_Vbl_1 lt_Vbl b5 d5
    have c_Vbl_0 := Vbl_5.out.cell 0 _ rfl
    have c_Vbl_1 := Vbl_5.out.cell 1 _ rfl
    have lt_Vbl := Vbl_5.out.lt
    have c_Vxl_0 := Vxl_5.out.cell 0 _ rfl
    have c_Vxl_1 := Vxl_5.out.cell 1 _ rfl
    have lt_Vxl := Vxl_5.out.lt
    go_wp2_with fail
    go_region_held3 (fun w' => w'.cell? ⟨w4.heap.size, 0, none⟩ = some (Value.int .i64 zl) ∧ w'.cell? ⟨w4.heap.size, 1, none⟩ = some (Value.slice Xl l.length l.length) ∧ w'.cell? ⟨w0.heap.size, 0, none⟩ = some (Value.int .i64 zl) ∧ w'.cell? ⟨w0.heap.size, 1, none⟩ = some (Value.slice Al l.length cl))
      (first | exact ⟨(((Vxl_5.out.below (Below.refl _ _).drew).below b6).below b7).cell 0 _ rfl, (((Vxl_5.out.below (Below.refl _ _).drew).below b6).below b7).cell 1 _ rfl, (((Vbl_5.out.below (Below.refl _ _).drew).below b6).below b7).cell 0 _ rfl, (((Vbl_5.out.below (Below.refl _ _).drew).below b6).below b7).cell 1 _ rfl⟩ | exact ⟨((Vxl_5.out.below (Below.refl _ _).drew).below b6).cell 0 _ rfl, ((Vxl_5.out.below (Below.refl _ _).drew).below b6).cell 1 _ rfl, ((Vbl_5.out.below (Below.refl _ _).drew).below b6).cell 0 _ rfl, ((Vbl_5.out.below (Below.refl _ _).drew).below b6).cell 1 _ rfl⟩ | go_keep)
      (first
        | (go_at_call 6; refine (Calls.mono (SumK.copy zl Al cl l _ (hl.below B5.out.drew) hnl)) ?_; rintro e w6 ⟨C5, rfl, oc5, b6⟩)
        | (go_at_call 8; refine (Calls.mono (SumK.eq_same zl Xl C5 l.length l.length l _ ((Oxl_5.out.below (Below.refl _ _).drew).below b6).arg oc5.arg hnl)) ?_; rintro e w7 ⟨rfl, b7⟩))
    have h6 : w5.heap.size ≤ w6.heap.size := b6.size
    have h7 : w6.heap.size ≤ w7.heap.size := b7.size
    have d7 : Below w5.heap.size w5 w7 := (((Below.refl w5.heap.size w5).drew.trans (b6.mono (show w5.heap.size ≤ w5.heap.size by omega))).trans (b7.mono (show w5.heap.size ≤ w6.heap.size by omega)))
    have hs7 := d7.size
    have B7 := Lib.hid (B5.out.trans (d7.mono B5.out.size))
    have Vbl_7 := Lib.hid (Vbl_5.out.below d7)
    have Oxl_7 := Lib.hid (Oxl_5.out.below d7)
    have Vxl_7 := Lib.hid (Vxl_5.out.below d7)
    clear Vbl_5 Oxl_5 Vxl_5 c_Vbl_0 c_Vbl_1 lt_Vbl c_Vxl_0 c_Vxl_1 lt_Vxl b6 h6 b7 h7 d7
    clear oc5
    have c_Vbl_0 := Vbl_7.out.cell 0 _ rfl
    have c_Vbl_1 := Vbl_7.out.cell 1 _ rfl
    have lt_Vbl := Vbl_7.out.lt
    have c_Vxl_0 := Vxl_7.out.cell 0 _ rfl
    have c_Vxl_1 := Vxl_7.out.cell 1 _ rfl
    have lt_Vxl := Vxl_7.out.lt
    go_wp2
    go_ret
    exact ⟨rfl, B7.out⟩
  · simp only [if_neg htl] at SZ
    have HS0 := Lib.hid SZ
    clear SZ hlenl hwfl
    have B0 := Lib.hid (Below.refl w0.heap.size w0)
    go_enter Tryd.func3, Tryd.ntmps3
    go_wp2_with fail
    refine (Calls.mono (HS0.out _ (hl.below (B0.out.trans (((Below.refl w0.heap.size w0).alloc (by first | (simp; done) | (simp; omega)) (Obj.cells #[Value.int .i64 zl, Value.slice Al l.length cl] 24)).mono B0.out.size))))) ?_
    rintro e w1 ⟨rfl, b1⟩
    have hs1 : (w0.alloc (Obj.cells #[Value.int .i64 zl, Value.slice Al l.length cl] 24)).heap.size ≤ w1.heap.size := b1.size
    simp only [World.size_alloc] at hs1
    have d1 : Below w0.heap.size w0 w1 := ((Below.refl w0.heap.size w0).alloc (by first | (simp; done) | (simp; omega)) (Obj.cells #[Value.int .i64 zl, Value.slice Al l.length cl] 24)).trans (b1.mono (show w0.heap.size ≤ (w0.alloc (Obj.cells #[Value.int .i64 zl, Value.slice Al l.length cl] 24)).heap.size by first | exact Nat.le_refl _ | (simp; done) | (simp; omega)))
    have B1 := Lib.hid (B0.out.trans (d1.mono B0.out.size))
    have Vbl_1 := Lib.hid ((Lvar.new w0 #[Value.int .i64 zl, Value.slice Al l.length cl] 24).below b1)
    clear b1 d1
    have c_Vbl_0 := Vbl_1.out.cell 0 _ rfl
    have c_Vbl_1 := Vbl_1.out.cell 1 _ rfl
    have lt_Vbl := Vbl_1.out.lt
    go_wp2
    go_ret
    exact ⟨rfl, B1.out⟩

theorem laid_met (os : Os) : laidMetH Tryd.prog Rows.fnExactFormatSumRow.laid ((World.doorLaid Tryd.prog 4000 os).forCall (fun _ _ => 0) ⟨#[], #[.agg #[.int .i64 0, .slice none 0 0]], []⟩).memory :=
  laidMetH_of_parts3 (fuel := 8) (laidMet_of_run' 8 (by kernel_rfl) (by kernel_rfl)) (by kernel_rfl) (by kernel_rfl)
set_option maxRecDepth 100000 in
theorem lifted (os : Os) (started : os.Started) (H : Type) (enc : TypeId × Value → H) (F : Stop.Interp) :
    ReturnsInHanded {} Tryd.checked os 3 .any ((OpenSpec.ofChange Rows.fnExactFormatSumSpec).preRow enc Tryd.prog Tryd.f3 Rows.fnExactFormatSumRow.domain false Rows.fnExactFormatSumRow.laid) (((OpenSpec.ofChange Rows.fnExactFormatSumSpec).at F).post enc Tryd.prog Tryd.f3 false true false false) := by
  have hx : (DataW.whole enc Tryd.prog ((World.doorLaid Tryd.prog 4000 os).forCall (fun _ _ => 0) ⟨#[], #[.agg #[.int .i64 0, .slice none 0 0]], []⟩).memory Tryd.f3.params.toList Rows.fnExactFormatSumSpec.vars false #[Value.agg #[.int .i64 0, .slice none 0 0]].toList 8).isSome = true := by kernel_rfl
  obtain ⟨x, hx⟩ := Option.isSome_iff_exists.1 hx
  refine returnsInHanded_of_row (C := Tryd.checked) (s := OpenSpec.ofChange Rows.fnExactFormatSumSpec) Frame.own started (by kernel_rfl) Tryd.func3
    (witness_row_atRef (enc := enc) (C := Tryd.checked) false (World.doorLaid Tryd.prog 4000 os) #[.agg #[.int .i64 0, .slice none 0 0]] rfl (by kernel_rfl) (by kernel_rfl) (by kernel_rfl)
      (OpenSpec.preRow_of_cond 8 hx rfl (fun k hk => by cases hk) (by kernel_rfl) (laid_met os))) ?_
  intro W base args ds gs before hval0 hW _ _ _ hL _ _
  have hW' := hW
  obtain ⟨p, q, hA0, hV, rfl, hfz, hnd⟩ := hW
  have hval : ∀ (j : Nat) t v, Tryd.f3.params[j]? = some t → args[j]? = some v → Value.okWide Tryd.prog W .any base t v := hval0
  have hA : DataW.TrodAll enc Tryd.prog W 0 (fun _ => true) true Tryd.f3.params.toList args.toList ds p := hA0
  rw [Tryd.params3] at hA hval
  obtain ⟨v0, d0, rfl, rfl, h0⟩ := trodAll_one hA
  have hlt := fun x hx => hW'.lt x hx
  obtain ⟨rfl, rfl⟩ := trodVars_none hV
  obtain ⟨zl, al, cl, l, rfl, wl, hrl, hll, hsl⟩ := Frame.open_sum (W := W) isSum Tryd.underlying24 (by kernel_rfl) rfl rfl (hval 0 24 v0 rfl rfl) h0 (fun x hx => hlt x (by simp [hx]))
  refine (walk zl al cl l W hrl hll hsl (pow hL)).mono fun e W' ⟨he, hb⟩ => ?_
  subst he
  exact ⟨_, rfl, Frame.law_post (tb := 4) Frame.laidOut (by kernel_rfl) (by kernel_rfl) (by kernel_rfl) Tryd.underlying4 hW' rfl hb⟩

theorem said : Rows.FnExactFormatSumSaid :=
  OpenClaim.holds_of_cond 3 Tryd.f3 rfl rfl rfl rfl rfl rfl rfl ⟨rfl, rfl, rfl, rfl, rfl⟩ rfl rfl rfl rfl rfl (by kernel_rfl) Tryd.func3 (by kernel_rfl)
    (of_decide_eq_true (by kernel_rfl)) (by unfold Func.isWrapper; first | (rw [if_pos (by decide +kernel)]; kernel_rfl) | (rw [if_neg (by decide +kernel)]; exact ⟨rfl, rfl⟩))
    (fun os started H enc _ F => by rw [OpenClaim.pre_eq_preRow]; exact lifted os started H enc F)

theorem plain (f : FuncId) (fn : Func) (hf : Tryd.pinned.checked.prog.funcNamed "loop.example/g00515/laws.FnExactFormatSum" = some f) (hfn : Tryd.pinned.checked.prog.funcs[f]? = some fn) :
    false = Tryd.pinned.checked.prog.looks [] ∧ ∀ (j : Nat) t, fn.params[j]? = some t → Tryd.pinned.checked.prog.wantsStandIn t = false := by
  obtain rfl : f = 3 := Option.some.inj ((show Tryd.prog.funcNamed "loop.example/g00515/laws.FnExactFormatSum" = some 3 by kernel_rfl).symm.trans hf) |>.symm
  obtain rfl : fn = Tryd.f3 := (Option.some.inj (Tryd.func3.symm.trans hfn)).symm
  refine ⟨by kernel_rfl, fun j t ht => ?_⟩
  rw [Tryd.params3] at ht
  have hm : t ∈ [24] := by simpa using Array.mem_of_getElem? ht
  have hall : ([24].all fun u => !Tryd.prog.wantsStandIn u) = true := by kernel_rfl
  exact (show Tryd.prog.wantsStandIn t = false by simpa using List.all_eq_true.1 hall t hm)

theorem card : Rows.FnExactFormatSumCardSaid :=
  Claim7.holds_tied_plain_at .later [] _ _ _ _ said (fun _ h => by cases h) (by kernel_rfl) (fun _ h => by cases h) fnExactFormatSum_row_tie rfl ⟨rfl, rfl⟩ (by kernel_rfl) rfl plain (by kernel_rfl)
end LawFormatSum
end Go.Proofs.YtaepfdgfjcdidaaDoor
