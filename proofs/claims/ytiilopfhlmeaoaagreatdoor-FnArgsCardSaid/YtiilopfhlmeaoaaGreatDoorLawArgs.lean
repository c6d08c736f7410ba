import Derived.Test.YtiilopfhlmeaoaaGreatDoorCards
import Derived.Test.YtiilopfhlmeaoaaGreatDoorTie
import Derived.Test.YtiilopfhlmeaoaaGreatDoorFrame
import Derived.Test.YtiilopfhlmeaoaaGreatDoorWalkArgs
import Derived.Test.YtiilopfhlmeaoaaGreatDoorFrameCode
import Derived.LaidMore
import Derived.LaidSub
import Derived.MakeChecks
import Derived.Deep.DeepWitnessRowRef
import Derived.SevenTiedAt
/- At every code of bytes, an argument is parsed from its representation, and its names are in order: the law FnArgs returns true. Its condition: the listed variables hold what their initialisers lay. -/
namespace Go.Proofs.YtiilopfhlmeaoaaGreatDoor
open Go.ChangeShapes Go.WideShapes Go.ChangeAt Go.RowKit
open Go.ChangeMaps (open_string shut_string)
namespace LawArgs

/-- A start for the witness: the door's own heap, and the library's great table laid as its constant says. -/
noncomputable def start (os : Os) : World :=
  { World.doorLaid Tryz.prog 4000 os with heap := (World.doorLaid Tryz.prog 4000 os).heap.modify 1 fun
      | .cells _ t frozen => .cells (Go.Pinned.utf8FirstZ.map fun n : Nat => Value.int .u8 (n : Int)).toArray t frozen
      | o => o }

/-- What the row's list says of the variables. -/
theorem env {W : World} (h : laidMetH Tryz.prog Rows.fnArgsRow.laid W) : ParseI.Env W := by
  have plain : ∀ n, laidMet Tryz.prog (Rows.fnArgsRow.laid.filter fun x => x.1 == n) W := fun n => by
    have h1 := laidMetH.filter (fun x => x.1 == n) h
    rw [MakeChecks.laidMetH_plain _ _ _ (List.all_eq_true.2 fun x hx => List.all_eq_true.1 (show (Rows.fnArgsRow.laid.all fun x => x.2.handleName?.isNone) = true by kernel_rfl) x (List.mem_filter.1 hx).1)] at h1
    exact h1
  exact ⟨Lib.tabIs_of_head (P := Tryz.prog) (rest := []) (g := 6) (t := 194) (e := 140) (n := 20) (by kernel_rfl) (by kernel_rfl) Tryz.underlying194 Tryz.underlying140 (by kernel_rfl) (by kernel_rfl) (plain "internal/strconv.uint64pow10"),
    Frame.laid_iface (P := Tryz.prog) (r := []) (g := 4) (ti := 146) (plain "strconv.ErrSyntax") (by kernel_rfl) (by kernel_rfl) Tryz.underlying146,
    Frame.laid_iface (P := Tryz.prog) (r := []) (g := 5) (ti := 146) (plain "strconv.ErrRange") (by kernel_rfl) (by kernel_rfl) Tryz.underlying146,
    Frame.laid_iface (P := Tryz.prog) (r := []) (g := 3) (ti := 146) (plain "loop.example/g00515/impl.errMalformed") (by kernel_rfl) (by kernel_rfl) Tryz.underlying146⟩

theorem laid_met (os : Os) : laidMetH Tryz.prog Rows.fnArgsRow.laid ((start os).forCall (fun _ _ => 0) ⟨#[], #[.slice none 0 0], []⟩).memory :=
  laidMetH_of_parts3 (fuel := 8) (laidMet_of_run' 8 (by kernel_rfl) (by kernel_rfl)) (by kernel_rfl) (by kernel_rfl)
set_option maxRecDepth 100000 in
theorem lifted (os : Os) (started : os.Started) (H : Type) (enc : TypeId × Value → H) (F : Stop.Interp) :
    ReturnsInHanded {} Tryz.checked os 3 .any ((OpenSpec.ofChange Rows.fnArgsSpec).preRow enc Tryz.prog Tryz.f3 Rows.fnArgsRow.domain false Rows.fnArgsRow.laid) (((OpenSpec.ofChange Rows.fnArgsSpec).at F).post enc Tryz.prog Tryz.f3 false true false false) := by
  have hx : (DataW.whole enc Tryz.prog ((start os).forCall (fun _ _ => 0) ⟨#[], #[.slice none 0 0], []⟩).memory Tryz.f3.params.toList Rows.fnArgsSpec.vars false #[Value.slice none 0 0].toList 8).isSome = true := by kernel_rfl
  obtain ⟨x, hx⟩ := Option.isSome_iff_exists.1 hx
  refine returnsInHanded_of_row (C := Tryz.checked) (s := OpenSpec.ofChange Rows.fnArgsSpec) Frame.own started (by kernel_rfl) Tryz.func3
    (witness_row_atRef (enc := enc) (C := Tryz.checked) false (start os) #[.slice none 0 0] rfl (by kernel_rfl) (by kernel_rfl) (by kernel_rfl)
      (OpenSpec.preRow_of_cond 8 hx rfl (fun k hk => by cases hk) (by kernel_rfl) (laid_met os))) ?_
  intro W base args ds gs before hval0 hW _ _ _ hL hsh _
  have hW' := hW
  obtain ⟨p, q, hA0, hV, rfl, hfz, hnd⟩ := hW
  have hval : ∀ (j : Nat) t v, Tryz.f3.params[j]? = some t → args[j]? = some v → Value.okWide Tryz.prog W .any base t v := hval0
  have hA : DataW.TrodAll enc Tryz.prog W 0 (fun _ => true) true Tryz.f3.params.toList args.toList ds p := hA0
  rw [Tryz.params3] at hA hval
  obtain ⟨v0, d0, rfl, rfl, h0⟩ := trodAll_one hA
  have hlt := fun x hx => hW'.lt x hx
  obtain ⟨g1, rfl⟩ := Frame.vars_one hV
  obtain ⟨ab, nb, cb, rfl⟩ := okWide_slice Tryz.underlying22 (hval 0 22 v0 rfl rfl)
  obtain ⟨hb, hlb⟩ := Frame.open_code (W := W) (by kernel_rfl) Tryz.underlying22 Tryz.underlying5 h0 (fun x hx => hlt x (by simp [hx]))
  refine (walk ab nb cb W hb (CutI.Env.of_shaped hsh (env hL))).mono fun e W' ⟨he, hb⟩ => ?_
  subst he
  exact ⟨_, rfl, Frame.law_post (tb := 4) Frame.laidOut (by kernel_rfl) (by kernel_rfl) (by kernel_rfl) Tryz.underlying4 hW' rfl hb⟩

theorem said : Rows.FnArgsSaid :=
  OpenClaim.holds_of_cond 3 Tryz.f3 rfl rfl rfl rfl rfl rfl rfl ⟨rfl, rfl, rfl, rfl, rfl⟩ rfl rfl rfl rfl rfl (by kernel_rfl) Tryz.func3 (by kernel_rfl)
    (of_decide_eq_true (by kernel_rfl)) (by unfold Func.isWrapper; first | (rw [if_pos (by decide +kernel)]; kernel_rfl) | (rw [if_neg (by decide +kernel)]; exact ⟨rfl, rfl⟩))
    (fun os started H enc _ F => by rw [OpenClaim.pre_eq_preRow]; exact lifted os started H enc F)

theorem plain (f : FuncId) (fn : Func) (hf : Tryz.pinned.checked.prog.funcNamed "loop.example/g00515/laws.FnArgs" = some f) (hfn : Tryz.pinned.checked.prog.funcs[f]? = some fn) :
    true = Tryz.pinned.checked.prog.looks [] ∧ ∀ (j : Nat) t, fn.params[j]? = some t → Tryz.pinned.checked.prog.wantsStandIn t = false := by
  obtain rfl : f = 3 := Option.some.inj ((show Tryz.prog.funcNamed "loop.example/g00515/laws.FnArgs" = some 3 by kernel_rfl).symm.trans hf) |>.symm
  obtain rfl : fn = Tryz.f3 := (Option.some.inj (Tryz.func3.symm.trans hfn)).symm
  refine ⟨by kernel_rfl, fun j t ht => ?_⟩
  rw [Tryz.params3] at ht
  have hm : t ∈ [22] := by simpa using Array.mem_of_getElem? ht
  have hall : ([22].all fun u => !Tryz.prog.wantsStandIn u) = true := by kernel_rfl
  exact (show Tryz.prog.wantsStandIn t = false by simpa using List.all_eq_true.1 hall t hm)

theorem card : Rows.FnArgsCardSaid :=
  Claim7.holds_tied_plain_at .later [] _ _ _ _ said (fun _ h => by cases h) (by kernel_rfl) (fun _ h => by cases h) fnArgs_row_tie rfl ⟨rfl, rfl⟩ (by kernel_rfl) rfl plain (by kernel_rfl)
end LawArgs
end Go.Proofs.YtiilopfhlmeaoaaGreatDoor
