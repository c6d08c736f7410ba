/- At every text and byte, impl.SplitByte answers as its model: the law FnExactSplitByte returns true. Its condition: the listed tables of the library hold what their text lays. -/
import Derived.Test.YtniolijdnkaokaaDoorCards
import Derived.Test.YtniolijdnkaokaaDoorTie
import Derived.Test.YtniolijdnkaokaaDoorFrame
import Derived.Test.YtniolijdnkaokaaDoorSplitSpec
import Derived.LaidMore
import Derived.LaidSub
import Derived.MakeChecks
import Derived.Deep.DeepWitnessRowRef
import Derived.SevenTiedAt
namespace Go.Proofs.YtniolijdnkaokaaDoor
open Go.ChangeShapes Go.WideShapes Go.ChangeAt Go.RowKit
open Go.ChangeMaps (open_string shut_string)
namespace LawSplitByte

/-- A start for the witness: the door's own heap, and the library's great table laid as its constant says. -/
noncomputable def start (os : Os) : World :=
  { World.doorLaid Tryd.prog 4000 os with heap := (World.doorLaid Tryd.prog 4000 os).heap.modify 5 fun
      | .cells _ t frozen => .cells (Go.Pinned.utf8FirstZ.map fun n : Nat => Value.int .u8 (n : Int)).toArray t frozen
      | o => o }

set_option maxHeartbeats 1000000 in
set_option maxRecDepth 100000 in
theorem walk_short (s : ByteArray) (c : UInt8) (hs : s.size ≤ 1048576) (w : World) (hv : SplitS.Var w) :
    Calls Tryd.prog 8 #[.string s, .int .u8 (c.toNat : Int)] w fun e w' => e = .returned (.bool true) ∧ Below w.heap.size w w' := by
  have hcnt : (SplitM.spB c s).length ≤ 1048577 := by
    have := SplitM.sp_length_le c s.data.toList
    simp only [SplitM.spB, List.length_map]
    simp at this
    omega
  go_enter Tryd.func8, Tryd.ntmps8
  go_wp2_with fail
  refine (SplitS.spec s c hs _).mono ?_
  rintro e w1 ⟨A, ca, rfl, ra, _, b1, na⟩
  go_wp2_with fail
  refine (SplitS.impl s c hs _ (hv.below b1)).mono ?_
  rintro e w2 ⟨B, cb, rfl, rb, fb, b2, nb⟩
  generalize hss : SplitM.spB c s = ss at *
  have HSS := Lib.hid hss
  clear hss
  go_wp2_with fail
  refine (StrK.eq_same B A cb ca ss _ rb (ra.below b2) (by omega)).mono ?_
  rintro e w3 ⟨rfl, b3⟩
  go_wp2_with fail
  refine (StrK.mark1 B cb ss _ (rb.below b3) (fb.below rb b3) (by omega)).mono ?_
  rintro e w4 ⟨rfl, rm, o4, f4⟩
  go_wp2_with fail
  refine (StrK.held1 B cb ss.length _ rm (by omega)).mono ?_
  rintro e w5 ⟨rfl, b5⟩
  have hb3 : Below w.heap.size w w3 := (b1.trans (b2.mono b1.size)).trans (b3.mono (Nat.le_trans b1.size b2.size))
  have hb4 : Below w.heap.size w w4 := StrK.below_only hb3 o4 hb3.size (fun b e => Nat.le_trans b1.size (nb b e))
  have hb5 : Below w.heap.size w w5 := hb4.trans (b5.mono hb4.size)
  go_wp2_with fail
  refine (SplitS.impl s c hs _ (hv.below hb5)).mono ?_
  rintro e w6 ⟨C, cc, rfl, rc, _, b6, _⟩
  rw [HSS.out] at *
  have ra3 : StrK.SRow w3 A ss := (ra.below b2).below b3
  have ra6 : StrK.SRow w6 A ss := ((ra.only_later ra3 o4 nb).below b5).below b6
  go_wp2_with fail
  refine (StrK.eq_same C A cc ca ss _ rc ra6 (by omega)).mono ?_
  rintro e w7 ⟨rfl, b7⟩
  have rm7 : StrK.SRow w7 B (StrK.marks 1 ss.length) := ((rm.below b5).below b6).below b7
  go_wp2_with fail
  refine (StrK.held1 B cb ss.length _ rm7 (by omega)).mono ?_
  rintro e w8 ⟨rfl, b8⟩
  have hb7 : Below w.heap.size w w7 := (hb5.trans (b6.mono hb5.size)).trans (b7.mono (Nat.le_trans hb5.size b6.size))
  go_wp2
  go_ret
  exact ⟨rfl, hb7.trans (b8.mono hb7.size)⟩

theorem walk (s : ByteArray) (c : UInt8) (w : World) (hv : SplitS.Var w) :
    Calls Tryd.prog 8 #[.string s, .int .u8 (c.toNat : Int)] w fun e w' => e = .returned (.bool true) ∧ Below w.heap.size w w' := by
  by_cases hs : s.size ≤ 1048576
  · exact walk_short s c hs w hv
  · go_enter Tryd.func8, Tryd.ntmps8
    go_wp2
    go_ret
    exact ⟨rfl, Below.refl _ _⟩

theorem walk_int (s : ByteArray) (x : Int) (h0 : 0 ≤ x) (h1 : x ≤ 255) (w : World) (hv : SplitS.Var w) :
    Calls Tryd.prog 8 #[.string s, .int .u8 x] w fun e w' => e = .returned (.bool true) ∧ Below w.heap.size w w' := by
  have e : x = ((UInt8.ofNat x.toNat).toNat : Int) := by rw [UInt8.toNat_ofNat']; omega
  rw [e]
  exact walk s _ w hv

theorem laid_met (os : Os) : laidMetH Tryd.prog Rows.fnExactSplitByteRow.laid ((start os).forCall (fun _ _ => 0) ⟨#[], #[.string .empty, .int .u8 0], []⟩).memory :=
  laidMetH_of_parts3 (fuel := 8) (laidMet_of_run' 8 (by kernel_rfl) (by kernel_rfl)) (by kernel_rfl) (by kernel_rfl)
set_option maxRecDepth 100000 in
theorem lifted (os : Os) (started : os.Started) (H : Type) (enc : TypeId × Value → H) (F : Stop.Interp) :
    ReturnsInHanded {} Tryd.checked os 8 .any ((OpenSpec.ofChange Rows.fnExactSplitByteSpec).preRow enc Tryd.prog Tryd.f8 Rows.fnExactSplitByteRow.domain false Rows.fnExactSplitByteRow.laid) (((OpenSpec.ofChange Rows.fnExactSplitByteSpec).at F).post enc Tryd.prog Tryd.f8 false true false false) := by
  have hx : (DataW.whole enc Tryd.prog ((start os).forCall (fun _ _ => 0) ⟨#[], #[.string .empty, .int .u8 0], []⟩).memory Tryd.f8.params.toList Rows.fnExactSplitByteSpec.vars false #[Value.string .empty, Value.int .u8 0].toList 8).isSome = true := by kernel_rfl
  obtain ⟨x, hx⟩ := Option.isSome_iff_exists.1 hx
  refine returnsInHanded_of_row (C := Tryd.checked) (s := OpenSpec.ofChange Rows.fnExactSplitByteSpec) Frame.own started (by kernel_rfl) Tryd.func8
    (witness_row_atRef (enc := enc) (C := Tryd.checked) false (start os) #[.string .empty, .int .u8 0] rfl (by kernel_rfl) (by kernel_rfl) (by kernel_rfl)
      (OpenSpec.preRow_of_cond 8 hx rfl (fun k hk => by cases hk) (by kernel_rfl) (laid_met os))) ?_
  intro W base args ds gs before hval0 hW _ _ _ hL hsh _
  have hW' := hW
  obtain ⟨p, q, hA0, hV, rfl, hfz, hnd⟩ := hW
  have hval : ∀ (j : Nat) t v, Tryd.f8.params[j]? = some t → args[j]? = some v → Value.okWide Tryd.prog W .any base t v := hval0
  have hA : DataW.TrodAll enc Tryd.prog W 0 (fun _ => true) true Tryd.f8.params.toList args.toList ds p := hA0
  rw [Tryd.params8] at hA hval
  obtain ⟨v0, v1, d0, d1, p0, p1, rfl, rfl, rfl, h0, h1⟩ := trodAll_two hA
  obtain ⟨rfl, rfl⟩ := trodVars_none hV
  obtain ⟨s, rfl, rfl, rfl, ws⟩ := open_string Tryd.underlying9 (hval 0 9 v0 rfl rfl) h0
  obtain ⟨x, rfl, rfl, rfl, wx⟩ := open_int Tryd.underlying5 (hval 1 5 v1 rfl rfl) h1
  refine (walk_int s x (bounds_u8 wx).1 (bounds_u8 wx).2 W (SplitS.Var.of_shaped hsh)).mono fun e W' ⟨he, hb⟩ => ?_
  subst he
  exact ⟨_, rfl, Frame.law_post (tb := 4) Frame.laidOut (by kernel_rfl) (by kernel_rfl) (by kernel_rfl) Tryd.underlying4 hW' rfl hb⟩

theorem said : Rows.FnExactSplitByteSaid :=
  OpenClaim.holds_of_cond 8 Tryd.f8 rfl rfl rfl rfl rfl rfl rfl ⟨rfl, rfl, rfl, rfl, rfl⟩ rfl rfl rfl rfl rfl (by kernel_rfl) Tryd.func8 (by kernel_rfl)
    (of_decide_eq_true (by kernel_rfl)) (by unfold Func.isWrapper; first | (rw [if_pos (by decide +kernel)]; kernel_rfl) | (rw [if_neg (by decide +kernel)]; exact ⟨rfl, rfl⟩))
    (fun os started H enc _ F => by rw [OpenClaim.pre_eq_preRow]; exact lifted os started H enc F)

theorem plain (f : FuncId) (fn : Func) (hf : Tryd.pinned.checked.prog.funcNamed "loop.example/g00515/laws.FnExactSplitByte" = some f) (hfn : Tryd.pinned.checked.prog.funcs[f]? = some fn) :
    true = Tryd.pinned.checked.prog.looks [] ∧ ∀ (j : Nat) t, fn.params[j]? = some t → Tryd.pinned.checked.prog.wantsStandIn t = false := by
  obtain rfl : f = 8 := Option.some.inj ((show Tryd.prog.funcNamed "loop.example/g00515/laws.FnExactSplitByte" = some 8 by kernel_rfl).symm.trans hf) |>.symm
  obtain rfl : fn = Tryd.f8 := (Option.some.inj (Tryd.func8.symm.trans hfn)).symm
  refine ⟨by kernel_rfl, fun j t ht => ?_⟩
  rw [Tryd.params8] at ht
  have hm : t ∈ [9, 5] := by simpa using Array.mem_of_getElem? ht
  have hall : ([9, 5].all fun u => !Tryd.prog.wantsStandIn u) = true := by kernel_rfl
  exact (show Tryd.prog.wantsStandIn t = false by simpa using List.all_eq_true.1 hall t hm)

theorem card : Rows.FnExactSplitByteCardSaid :=
  Claim7.holds_tied_plain_at .later [] _ _ _ _ said (fun _ h => by cases h) (by kernel_rfl) (fun _ h => by cases h) fnExactSplitByte_row_tie rfl ⟨rfl, rfl⟩ (by kernel_rfl) rfl plain (by kernel_rfl)
end LawSplitByte
end Go.Proofs.YtniolijdnkaokaaDoor
