/- At every code of bytes the law FnNumbers returns true: impl.FormatInt writes what its model writes, impl.ParseInt and impl.ParseNumber read it again where it has few enough digits, and what they read is written as it was. Its condition: the listed variables hold what their initialisers lay. -/
import Derived.Test.YtniolijdnkaokaaDoorCards
import Derived.Test.YtniolijdnkaokaaDoorTie
import Derived.Test.YtniolijdnkaokaaDoorFrame
import Derived.Test.YtniolijdnkaokaaDoorWalkNumbers
import Derived.Test.YtniolijdnkaokaaDoorFrameCode
import Derived.LaidMore
import Derived.LaidSub
import Derived.MakeChecks
import Derived.Deep.DeepWitnessRowRef
import Derived.SevenTiedAt
namespace Go.Proofs.YtniolijdnkaokaaDoor
open Go.ChangeShapes Go.WideShapes Go.ChangeAt Go.RowKit
open Go.ChangeMaps (open_string shut_string)
namespace LawNumbers

/-- What the row's list says of the variables. -/
theorem env {W : World} (h : laidMetH Tryd.prog Rows.fnNumbersRow.laid W) : ParseI.Env W := by
  have plain : ∀ n, laidMet Tryd.prog (Rows.fnNumbersRow.laid.filter fun x => x.1 == n) W := fun n => by
    have h1 := laidMetH.filter (fun x => x.1 == n) h
    rw [MakeChecks.laidMetH_plain _ _ _ (List.all_eq_true.2 fun x hx => List.all_eq_true.1 (show (Rows.fnNumbersRow.laid.all fun x => x.2.handleName?.isNone) = true by kernel_rfl) x (List.mem_filter.1 hx).1)] at h1
    exact h1
  exact ⟨Lib.tabIs_of_head (P := Tryd.prog) (rest := []) (g := 1) (t := 89) (e := 69) (n := 20) (by kernel_rfl) (by kernel_rfl) Tryd.underlying89 Tryd.underlying69 (by kernel_rfl) (by kernel_rfl) (plain "internal/strconv.uint64pow10"),
    Frame.laid_iface (P := Tryd.prog) (r := []) (g := 2) (ti := 53) (plain "strconv.ErrSyntax") (by kernel_rfl) (by kernel_rfl) Tryd.underlying53,
    Frame.laid_iface (P := Tryd.prog) (r := []) (g := 3) (ti := 53) (plain "strconv.ErrRange") (by kernel_rfl) (by kernel_rfl) Tryd.underlying53,
    Frame.laid_iface (P := Tryd.prog) (r := []) (g := 0) (ti := 53) (plain "loop.example/g00515/impl.errMalformed") (by kernel_rfl) (by kernel_rfl) Tryd.underlying53⟩

theorem laid_met (os : Os) : laidMetH Tryd.prog Rows.fnNumbersRow.laid ((World.doorLaid Tryd.prog 4000 os).forCall (fun _ _ => 0) ⟨#[], #[.slice none 0 0], []⟩).memory :=
  laidMetH_of_parts3 (fuel := 8) (laidMet_of_run' 8 (by kernel_rfl) (by kernel_rfl)) (by kernel_rfl) (by kernel_rfl)
set_option maxRecDepth 100000 in
theorem lifted (os : Os) (started : os.Started) (H : Type) (enc : TypeId × Value → H) (F : Stop.Interp) :
    ReturnsInHanded {} Tryd.checked os 3 .any ((OpenSpec.ofChange Rows.fnNumbersSpec).preRow enc Tryd.prog Tryd.f3 Rows.fnNumbersRow.domain false Rows.fnNumbersRow.laid) (((OpenSpec.ofChange Rows.fnNumbersSpec).at F).post enc Tryd.prog Tryd.f3 false true false false) := by
  have hx : (DataW.whole enc Tryd.prog ((World.doorLaid Tryd.prog 4000 os).forCall (fun _ _ => 0) ⟨#[], #[.slice none 0 0], []⟩).memory Tryd.f3.params.toList Rows.fnNumbersSpec.vars false #[Value.slice none 0 0].toList 8).isSome = true := by kernel_rfl
  obtain ⟨x, hx⟩ := Option.isSome_iff_exists.1 hx
  refine returnsInHanded_of_row (C := Tryd.checked) (s := OpenSpec.ofChange Rows.fnNumbersSpec) Frame.own started (by kernel_rfl) Tryd.func3
    (witness_row_atRef (enc := enc) (C := Tryd.checked) false (World.doorLaid Tryd.prog 4000 os) #[.slice none 0 0] rfl (by kernel_rfl) (by kernel_rfl) (by kernel_rfl)
      (OpenSpec.preRow_of_cond 8 hx rfl (fun k hk => by cases hk) (by kernel_rfl) (laid_met os))) ?_
  intro W base args ds gs before hval0 hW _ _ _ hL _ _
  have hW' := hW
  obtain ⟨p, q, hA0, hV, rfl, hfz, hnd⟩ := hW
  have hval : ∀ (j : Nat) t v, Tryd.f3.params[j]? = some t → args[j]? = some v → Value.okWide Tryd.prog W .any base t v := hval0
  have hA : DataW.TrodAll enc Tryd.prog W 0 (fun _ => true) true Tryd.f3.params.toList args.toList ds p := hA0
  rw [Tryd.params3] at hA hval
  obtain ⟨v0, d0, rfl, rfl, h0⟩ := trodAll_one hA
  have hlt : ∀ x ∈ p ++ q, x.block < W.heap.size := fun x hx => hW'.lt x hx
  obtain ⟨g1, rfl⟩ := Frame.vars_one hV
  obtain ⟨a0, n, c, rfl⟩ := okWide_slice Tryd.underlying22 (hval 0 22 v0 rfl rfl)
  obtain ⟨hcode, _⟩ := Frame.open_code (W := W) (by kernel_rfl) Tryd.underlying22 Tryd.underlying5 h0 (fun x hx => hlt x (List.mem_append_left _ hx))
  refine (walk a0 n c W hcode (env hL)).mono fun e W' ⟨he, hb⟩ => ?_
  subst he
  exact ⟨_, rfl, Frame.law_post (tb := 4) Frame.laidOut (by kernel_rfl) (by kernel_rfl) (by kernel_rfl) Tryd.underlying4 hW' rfl hb⟩

theorem said : Rows.FnNumbersSaid :=
  OpenClaim.holds_of_cond 3 Tryd.f3 rfl rfl rfl rfl rfl rfl rfl ⟨rfl, rfl, rfl, rfl, rfl⟩ rfl rfl rfl rfl rfl (by kernel_rfl) Tryd.func3 (by kernel_rfl)
    (of_decide_eq_true (by kernel_rfl)) (by unfold Func.isWrapper; first | (rw [if_pos (by decide +kernel)]; kernel_rfl) | (rw [if_neg (by decide +kernel)]; exact ⟨rfl, rfl⟩))
    (fun os started H enc _ F => by rw [OpenClaim.pre_eq_preRow]; exact lifted os started H enc F)

theorem plain (f : FuncId) (fn : Func) (hf : Tryd.pinned.checked.prog.funcNamed "loop.example/g00515/laws.FnNumbers" = some f) (hfn : Tryd.pinned.checked.prog.funcs[f]? = some fn) :
    true = Tryd.pinned.checked.prog.looks [] ∧ ∀ (j : Nat) t, fn.params[j]? = some t → Tryd.pinned.checked.prog.wantsStandIn t = false := by
  obtain rfl : f = 3 := Option.some.inj ((show Tryd.prog.funcNamed "loop.example/g00515/laws.FnNumbers" = some 3 by kernel_rfl).symm.trans hf) |>.symm
  obtain rfl : fn = Tryd.f3 := (Option.some.inj (Tryd.func3.symm.trans hfn)).symm
  refine ⟨by kernel_rfl, fun j t ht => ?_⟩
  rw [Tryd.params3] at ht
  have hm : t ∈ [22] := by simpa using Array.mem_of_getElem? ht
  have hall : ([22].all fun u => !Tryd.prog.wantsStandIn u) = true := by kernel_rfl
  exact (show Tryd.prog.wantsStandIn t = false by simpa using List.all_eq_true.1 hall t hm)

theorem card : Rows.FnNumbersCardSaid :=
  Claim7.holds_tied_plain_at .later [] _ _ _ _ said (fun _ h => by cases h) (by kernel_rfl) (fun _ h => by cases h) fnNumbers_row_tie rfl ⟨rfl, rfl⟩ (by kernel_rfl) rfl plain (by kernel_rfl)
end LawNumbers
end Go.Proofs.YtniolijdnkaokaaDoor
