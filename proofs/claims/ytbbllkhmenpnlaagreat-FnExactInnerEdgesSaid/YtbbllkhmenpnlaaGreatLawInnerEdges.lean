import Derived.Test.YtbbllkhmenpnlaaGreatRows
import Derived.Test.YtbbllkhmenpnlaaGreatFrame
import Derived.Test.YtbbllkhmenpnlaaGreatFProgram
import Derived.Test.YtbbllkhmenpnlaaGreatFSString
import Derived.Test.YtbbllkhmenpnlaaGreatGSEdge
import Derived.Test.YtbbllkhmenpnlaaGreatInnerS
import Derived.Deep.RegionHeld3
import Derived.Test.YtbbllkhmenpnlaaGreatWalkInnerEdges
import Derived.SliceStrings
/- At every argument, impl.InnerEdges answers as its model, writes nothing into its arguments and answers in new memory: the law FnExactInnerEdges returns true. There is no condition. -/
namespace Go.Proofs.YtbbllkhmenpnlaaGreat
open Go.ChangeShapes Go.WideShapes Go.ChangeAt Go.RowKit
open Go.ChangeMaps (open_string shut_string)
namespace LawInnerEdges


set_option maxRecDepth 100000 in
theorem lifted (os : Os) (started : os.Started) (H : Type) (enc : TypeId × Value → H) :
  ReturnsInHanded {} Tryz.checked os 8 .any (Rows.fnExactInnerEdgesSpec.pre6 enc Tryz.prog Tryz.f8 Rows.fnExactInnerEdgesRow.domain false) (Rows.fnExactInnerEdgesSpec.post enc Tryz.prog Tryz.f8 false true false false) := by
 refine returnsInHanded_of_change (C := Tryz.checked) Frame.own started (by kernel_rfl) Tryz.func8
  (ChangeSpec.witness6 (enc := enc) (C := Tryz.checked) false ⟨#[], #[.agg #[.slice none 0 0, .slice none 0 0], .slice none 0 0], []⟩ 8 (by kernel_rfl) (by kernel_rfl) (by kernel_rfl) (by kernel_rfl)) ?_
 intro W base args ds gs before hval0 hW _ _
 have hW' := hW
 have hval : ∀ (j : Nat) t v, Tryz.f8.params[j]? = some t → args[j]? = some v → Value.okWide Tryz.prog W .any base t v := hval0
 obtain ⟨p, q, hA0, hV, rfl, hfz, hnd⟩ := hW
 have hA : DataW.TrodAll enc Tryz.prog W 0 (fun _ => true) true Tryz.f8.params.toList args.toList ds p := hA0
 rw [Tryz.params8] at hA hval
 obtain ⟨v0, v1, d0, d1, p0, p1, rfl, rfl, rfl, h0, h1⟩ := trodAll_two hA
 have hlt := fun x hx => hW'.lt x hx
 obtain ⟨rfl, rfl⟩ := trodVars_none hV
 obtain ⟨A0p, c0p, x0p, A1p, c1p, x1p, rfl, hrp, hwp⟩ := Frame.openU_Program (W := W) (hval 0 56 v0 rfl rfl) h0 (fun x hx => hlt x (by simp [hx]))
 obtain ⟨al, cl, xl, rfl, hrl, hll, hwl⟩ := Frame.openS_String (W := W) (hval 1 31 v1 rfl rfl) h1 (fun x hx => hlt x (by simp [hx]))
 refine (walk A0p c0p x0p A1p c1p x1p al cl xl W hrp hwp hrl hll hwl).mono fun e W' ⟨he, hb⟩ => ?_
 subst he
 exact ⟨_, rfl, Frame.law_post (tb := 4) Frame.laidOut (by kernel_rfl) (by kernel_rfl) (by kernel_rfl) Tryz.underlying4 hW' rfl hb⟩

theorem proved : Rows.FnExactInnerEdgesSaid :=
 OpenClaim.holds_of_wide 8 Tryz.f8 rfl rfl rfl rfl rfl rfl rfl ⟨rfl, rfl, rfl, rfl, rfl⟩ rfl rfl rfl rfl rfl (by kernel_rfl) Tryz.func8 (by kernel_rfl)
  (of_decide_eq_true (by kernel_rfl)) (by unfold Func.isWrapper; first | (rw [if_pos (by decide +kernel)]; kernel_rfl) | (rw [if_neg (by decide +kernel)]; exact ⟨rfl, rfl⟩))
  (fun os started H enc _ => lifted os started H enc)
end LawInnerEdges
end Go.Proofs.YtbbllkhmenpnlaaGreat
