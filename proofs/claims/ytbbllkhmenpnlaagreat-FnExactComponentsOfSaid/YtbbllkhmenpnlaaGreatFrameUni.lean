import Derived.Test.YtbbllkhmenpnlaaGreatFrameSys
import Derived.Test.YtbbllkhmenpnlaaGreatRepUni
/-
  Arguments of a law, opened: strings, expressions, sums in the one form (made by tools/ukit.py).
-/
namespace Go.Proofs.YtbbllkhmenpnlaaGreat
open Go.ChangeShapes Go.WideShapes Go.ChangeAt Go.RowKit Go.Joins Go.Deep
namespace Frame
open RowK Mem
variable {H : Type} {enc : TypeId × Value → H} {P : Program}
theorem list2 {α : Type} {cs : List α} (h : cs.length = 2) : ∃ a0 a1, cs = [a0, a1] := by
 match cs, h with
 | [a0, a1], _ => exact ⟨a0, a1, rfl⟩
theorem list3 {α : Type} {cs : List α} (h : cs.length = 3) : ∃ a0 a1 a2, cs = [a0, a1, a2] := by
 match cs, h with
 | [a0, a1, a2], _ => exact ⟨a0, a1, a2, rfl⟩
theorem list4 {α : Type} {cs : List α} (h : cs.length = 4) : ∃ a0 a1 a2 a3, cs = [a0, a1, a2, a3] := by
 match cs, h with
 | [a0, a1, a2, a3], _ => exact ⟨a0, a1, a2, a3, rfl⟩
theorem list5 {α : Type} {cs : List α} (h : cs.length = 5) : ∃ a0 a1 a2 a3 a4, cs = [a0, a1, a2, a3, a4] := by
 match cs, h with
 | [a0, a1, a2, a3, a4], _ => exact ⟨a0, a1, a2, a3, a4, rfl⟩
theorem list7 {α : Type} {cs : List α} (h : cs.length = 7) : ∃ a0 a1 a2 a3 a4 a5 a6, cs = [a0, a1, a2, a3, a4, a5, a6] := by
 match cs, h with
 | [a0, a1, a2, a3, a4, a5, a6], _ => exact ⟨a0, a1, a2, a3, a4, a5, a6, rfl⟩
theorem trodU_str {W : World} {n : Nat} {cs : List Value} {y : DataW H × List MemPlace} {ts : TypeId} (hts : P.underlying ts = some .string) (h : DataW.trod enc P W 0 (fun _ => true) true n ts cs = some y) : ∃ fp p, Rep.str.rep false W fp cs p ∧ WfStr p := by
 obtain ⟨s, e, _, hw⟩ := DataW.trod_string hts h
 subst e
 exact ⟨[], s, ⟨rfl, rfl⟩, by unfold maxLen at hw; exact hw⟩
theorem trodU_lin {W : World} {e ti tl : TypeId} (T : IsLin P e ti tl) {n : Nat} {cs : List Value} {y : DataW H × List MemPlace} (h : DataW.trod enc P W 0 (fun _ => true) true n e cs = some y) (hlt : ∀ x ∈ y.2, x.block < W.heap.size) :
  ∃ fp p, lin.rep false W fp cs p ∧ WfLinU p := trod_lin T h hlt
theorem isLinU : IsLin Tryz.prog 206 3 106 :=
 ⟨⟨_, _, Tryz.underlying206, rfl, rfl, rfl, rfl⟩, Tryz.underlying3, Tryz.underlying106, by kernel_rfl, by kernel_rfl, by kernel_rfl⟩
theorem isSumU : IsSum Tryz.prog 212 210 261 3 9 :=
 ⟨⟨_, _, Tryz.underlying212, rfl, rfl, rfl, rfl⟩, ⟨_, _, Tryz.underlying261, rfl, rfl, rfl, rfl⟩, Tryz.underlying3, Tryz.underlying9, Tryz.underlying210, by kernel_rfl, by kernel_rfl, by kernel_rfl, by kernel_rfl, by kernel_rfl⟩
end Frame
end Go.Proofs.YtbbllkhmenpnlaaGreat
