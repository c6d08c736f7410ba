/- At every text, impl.ParseNumber answers as its model: the law FnExactParseNumber returns true. Its condition: the listed variables hold what their initialisers lay. -/
import Derived.Test.YtniolijdnkaokaaDoorCards
import Derived.Test.YtniolijdnkaokaaDoorTie
import Derived.Test.YtniolijdnkaokaaDoorFrame
import Derived.Test.YtniolijdnkaokaaDoorParseImpl
import Derived.Test.YtniolijdnkaokaaDoorReadSpec
import Derived.LaidMore
import Derived.LaidSub
import Derived.MakeChecks
import Derived.Deep.DeepWitnessRowRef
import Derived.SevenTiedAt
namespace Go.Proofs.YtniolijdnkaokaaDoor
open Go.ChangeShapes Go.WideShapes Go.ChangeAt Go.RowKit
open Go.ChangeMaps (open_string shut_string)
namespace LawParseNumber

/-- What the row's list says of the variables. -/
theorem env {W : World} (h : laidMetH Tryd.prog Rows.fnExactParseNumberRow.laid W) : ParseI.Env W := by
  have plain : ∀ n, laidMet Tryd.prog (Rows.fnExactParseNumberRow.laid.filter fun x => x.1 == n) W := fun n => by
    have h1 := laidMetH.filter (fun x => x.1 == n) h
    rw [MakeChecks.laidMetH_plain _ _ _ (List.all_eq_true.2 fun x hx => List.all_eq_true.1 (show (Rows.fnExactParseNumberRow.laid.all fun x => x.2.handleName?.isNone) = true by kernel_rfl) x (List.mem_filter.1 hx).1)] at h1
    exact h1
  exact ⟨Lib.tabIs_of_head (P := Tryd.prog) (rest := []) (g := 1) (t := 89) (e := 69) (n := 20) (by kernel_rfl) (by kernel_rfl) Tryd.underlying89 Tryd.underlying69 (by kernel_rfl) (by kernel_rfl) (plain "internal/strconv.uint64pow10"),
    Frame.laid_iface (P := Tryd.prog) (r := []) (g := 2) (ti := 53) (plain "strconv.ErrSyntax") (by kernel_rfl) (by kernel_rfl) Tryd.underlying53,
    Frame.laid_iface (P := Tryd.prog) (r := []) (g := 3) (ti := 53) (plain "strconv.ErrRange") (by kernel_rfl) (by kernel_rfl) Tryd.underlying53,
    Frame.laid_iface (P := Tryd.prog) (r := []) (g := 0) (ti := 53) (plain "loop.example/g00515/impl.errMalformed") (by kernel_rfl) (by kernel_rfl) Tryd.underlying53⟩

set_option maxHeartbeats 400000 in
set_option maxRecDepth 100000 in
theorem walk (s : ByteArray) (w : World) (henv : ParseI.Env w) :
    Calls Tryd.prog 6 #[.string s] w fun e w' => e = .returned (.bool true) ∧ Below w.heap.size w w' := by
  by_cases hsz : s.size ≤ 1048576
  · go_enter Tryd.func6, Tryd.ntmps6
    go_wp2_with fail
    refine (ReadS.parseNumber s hsz _).mono ?_
    rintro e w1 ⟨rfl, hb1⟩
    simp only [ReadS.out]
    go_wp2_with fail
    refine (ParseI.ParseNumber_any s hsz _ (henv.below hb1)).mono ?_
    rintro e w2 ⟨rfl, hb2⟩
    generalize NumM.rd _ _ s.data.toList = r
    cases r
    all_goals
      simp only [Option.getD_none, Option.getD_some, Option.isSome_none, Option.isSome_some]
      go_wp2
      go_ret
      exact ⟨rfl, hb1.trans (hb2.mono hb1.size)⟩
  · go_enter Tryd.func6, Tryd.ntmps6
    go_wp2
    go_ret
    exact ⟨rfl, Below.refl _ _⟩

theorem laid_met (os : Os) : laidMetH Tryd.prog Rows.fnExactParseNumberRow.laid ((World.doorLaid Tryd.prog 4000 os).forCall (fun _ _ => 0) ⟨#[], #[.string .empty], []⟩).memory :=
  laidMetH_of_parts3 (fuel := 8) (laidMet_of_run' 8 (by kernel_rfl) (by kernel_rfl)) (by kernel_rfl) (by kernel_rfl)
set_option maxRecDepth 100000 in
theorem lifted (os : Os) (started : os.Started) (H : Type) (enc : TypeId × Value → H) (F : Stop.Interp) :
    ReturnsInHanded {} Tryd.checked os 6 .any ((OpenSpec.ofChange Rows.fnExactParseNumberSpec).preRow enc Tryd.prog Tryd.f6 Rows.fnExactParseNumberRow.domain false Rows.fnExactParseNumberRow.laid) (((OpenSpec.ofChange Rows.fnExactParseNumberSpec).at F).post enc Tryd.prog Tryd.f6 false true false false) := by
  have hx : (DataW.whole enc Tryd.prog ((World.doorLaid Tryd.prog 4000 os).forCall (fun _ _ => 0) ⟨#[], #[.string .empty], []⟩).memory Tryd.f6.params.toList Rows.fnExactParseNumberSpec.vars false #[Value.string .empty].toList 8).isSome = true := by kernel_rfl
  obtain ⟨x, hx⟩ := Option.isSome_iff_exists.1 hx
  refine returnsInHanded_of_row (C := Tryd.checked) (s := OpenSpec.ofChange Rows.fnExactParseNumberSpec) Frame.own started (by kernel_rfl) Tryd.func6
    (witness_row_atRef (enc := enc) (C := Tryd.checked) false (World.doorLaid Tryd.prog 4000 os) #[.string .empty] rfl (by kernel_rfl) (by kernel_rfl) (by kernel_rfl)
      (OpenSpec.preRow_of_cond 8 hx rfl (fun k hk => by cases hk) (by kernel_rfl) (laid_met os))) ?_
  intro W base args ds gs before hval0 hW _ _ _ hL _ _
  have hW' := hW
  obtain ⟨p, q, hA0, hV, rfl, hfz, hnd⟩ := hW
  have hval : ∀ (j : Nat) t v, Tryd.f6.params[j]? = some t → args[j]? = some v → Value.okWide Tryd.prog W .any base t v := hval0
  have hA : DataW.TrodAll enc Tryd.prog W 0 (fun _ => true) true Tryd.f6.params.toList args.toList ds p := hA0
  rw [Tryd.params6] at hA hval
  obtain ⟨v0, d0, rfl, rfl, h0⟩ := trodAll_one hA
  obtain ⟨g1, rfl⟩ := Frame.vars_one hV
  obtain ⟨s, rfl, rfl, rfl, ws⟩ := open_string Tryd.underlying9 (hval 0 9 v0 rfl rfl) h0
  refine (walk s W (env hL)).mono fun e W' ⟨he, hb⟩ => ?_
  subst he
  exact ⟨_, rfl, Frame.law_post (tb := 4) Frame.laidOut (by kernel_rfl) (by kernel_rfl) (by kernel_rfl) Tryd.underlying4 hW' rfl hb⟩

theorem said : Rows.FnExactParseNumberSaid :=
  OpenClaim.holds_of_cond 6 Tryd.f6 rfl rfl rfl rfl rfl rfl rfl ⟨rfl, rfl, rfl, rfl, rfl⟩ rfl rfl rfl rfl rfl (by kernel_rfl) Tryd.func6 (by kernel_rfl)
    (of_decide_eq_true (by kernel_rfl)) (by unfold Func.isWrapper; first | (rw [if_pos (by decide +kernel)]; kernel_rfl) | (rw [if_neg (by decide +kernel)]; exact ⟨rfl, rfl⟩))
    (fun os started H enc _ F => by rw [OpenClaim.pre_eq_preRow]; exact lifted os started H enc F)

theorem plain (f : FuncId) (fn : Func) (hf : Tryd.pinned.checked.prog.funcNamed "loop.example/g00515/laws.FnExactParseNumber" = some f) (hfn : Tryd.pinned.checked.prog.funcs[f]? = some fn) :
    true = Tryd.pinned.checked.prog.looks [] ∧ ∀ (j : Nat) t, fn.params[j]? = some t → Tryd.pinned.checked.prog.wantsStandIn t = false := by
  obtain rfl : f = 6 := Option.some.inj ((show Tryd.prog.funcNamed "loop.example/g00515/laws.FnExactParseNumber" = some 6 by kernel_rfl).symm.trans hf) |>.symm
  obtain rfl : fn = Tryd.f6 := (Option.some.inj (Tryd.func6.symm.trans hfn)).symm
  refine ⟨by kernel_rfl, fun j t ht => ?_⟩
  rw [Tryd.params6] at ht
  have hm : t ∈ [9] := by simpa using Array.mem_of_getElem? ht
  have hall : ([9].all fun u => !Tryd.prog.wantsStandIn u) = true := by kernel_rfl
  exact (show Tryd.prog.wantsStandIn t = false by simpa using List.all_eq_true.1 hall t hm)

theorem card : Rows.FnExactParseNumberCardSaid :=
  Claim7.holds_tied_plain_at .later [] _ _ _ _ said (fun _ h => by cases h) (by kernel_rfl) (fun _ h => by cases h) fnExactParseNumber_row_tie rfl ⟨rfl, rfl⟩ (by kernel_rfl) rfl plain (by kernel_rfl)
end LawParseNumber
end Go.Proofs.YtniolijdnkaokaaDoor
