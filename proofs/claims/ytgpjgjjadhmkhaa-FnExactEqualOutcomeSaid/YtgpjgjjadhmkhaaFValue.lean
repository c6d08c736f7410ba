import Derived.Test.YtgpjgjjadhmkhaaFrameInt
import Derived.Test.YtgpjgjjadhmkhaaUOutcome
/-
  Arguments of a law, opened: Value (made by tools/ukit.py).
-/
namespace Go.Proofs.Ytgpjgjjadhmkhaa
open Go.ChangeShapes Go.WideShapes Go.ChangeAt Go.RowKit Go.Joins Go.Deep
namespace Frame
open RowK Mem
variable {H : Type} {enc : TypeId × Value → H}
set_option maxRecDepth 100000 in
theorem trodU_Value {W : World} {n : Nat} {cs : List Value} {y : DataW H × List MemPlace} (h : DataW.trod enc Try.prog W 0 (fun _ => true) true n 24 cs = some y) (hlt : ∀ x ∈ y.2, x.block < W.heap.size) :
    ∃ fp p, Mem.valu.rep false W fp cs p ∧ WfValueU p := by
  obtain ⟨ys, m, _, rfl, hl, hlen, hf⟩ := DataW.trod_struct Try.underlying24 h
  obtain ⟨y0, y1, y2, rfl⟩ := list3 (show ys.length = 3 from hlen)
  rw [show Try.prog.cellsOf 24 = 3 from by kernel_rfl] at hl
  obtain ⟨v0, v1, v2, rfl⟩ := list3 hl
  have g0 : DataW.trod enc Try.prog W 0 (fun _ => true) true m 4 (([v0, v1, v2].drop 0).take (Try.prog.cellsOf 4)) = some y0 := hf 0 _ rfl
  rw [show Try.prog.cellsOf 4 = 1 from by kernel_rfl] at g0
  have g0 : DataW.trod enc Try.prog W 0 (fun _ => true) true m 4 [v0] = some y0 := g0
  have g1 : DataW.trod enc Try.prog W 0 (fun _ => true) true m 3 (([v0, v1, v2].drop 1).take (Try.prog.cellsOf 3)) = some y1 := hf 1 _ rfl
  rw [show Try.prog.cellsOf 3 = 1 from by kernel_rfl] at g1
  have g1 : DataW.trod enc Try.prog W 0 (fun _ => true) true m 3 [v1] = some y1 := g1
  have g2 : DataW.trod enc Try.prog W 0 (fun _ => true) true m 22 (([v0, v1, v2].drop 2).take (Try.prog.cellsOf 22)) = some y2 := hf 2 _ rfl
  rw [show Try.prog.cellsOf 22 = 1 from by kernel_rfl] at g2
  have g2 : DataW.trod enc Try.prog W 0 (fun _ => true) true m 22 [v2] = some y2 := g2
  obtain ⟨z0, e0, _⟩ := DataW.trod_bool Try.underlying4 g0
  obtain rfl : v0 = .bool z0 := by simpa using e0
  obtain ⟨z1, e1, _, hw1⟩ := DataW.trod_int Try.underlying3 g1
  obtain rfl : v1 = .int .i64 z1 := by simpa using e1
  obtain ⟨A2, c2, f2, x2, rfl, k2, ha2, hb2⟩ := trod_slice (r := Rep.int) (Wf := WfInt) (by decide) (by kernel_rfl) Try.underlying22 (fun h _ => trodU_int Try.underlying3 h) g2 (fun x hx => hlt x (by simp [hx]))
  exact ⟨_, (z0, z1, x2), (show Mem.valu.rep false W ([] ++ ([] ++ (f2))) ([.bool z0] ++ ([.int .i64 z1] ++ ([.slice A2 x2.length c2]))) _ from ⟨_, _, _, _, rfl, rfl, ⟨rfl, rfl⟩, ⟨_, _, _, _, rfl, rfl, ⟨rfl, rfl⟩, k2⟩⟩), ⟨trivial, hw1, ha2, hb2⟩⟩
set_option maxRecDepth 100000 in
theorem openU_Value {W : World} {v : Value} {d : DataW H} {ps : List MemPlace} {r : Reach} {b0 : Nat} (hv : Value.okWide Try.prog W r b0 24 v) (h : DataW.Trod enc Try.prog W 0 (fun _ => true) true 24 v d ps) (hlt : ∀ x ∈ ps, x.block < W.heap.size) :
    ∃ (z0 : Bool) (z1 : Int) (A2 : Option Addr) (c2 : Nat) (x2 : List Int), v = .agg #[.bool z0, .int .i64 z1, .slice A2 x2.length c2] ∧ ArgR Mem.valu W [.bool z0, .int .i64 z1, .slice A2 x2.length c2] (z0, z1, x2) ∧ WfValueU (z0, z1, x2) := by
  obtain ⟨cs, rfl, hsz⟩ := okWide_struct Try.underlying24 hv
  obtain ⟨fuel, hf⟩ := h
  obtain ⟨fp, p, hr, hw⟩ := trodU_Value hf hlt
  obtain ⟨z0, z1, x2⟩ := p
  obtain ⟨A2, c2, f2, hfp, hcs, r2⟩ := valu_open hr
  have hcs : cs.toList = [.bool z0, .int .i64 z1, .slice A2 x2.length c2] := hcs
  obtain ⟨l⟩ := cs
  have hcs : l = [.bool z0, .int .i64 z1, .slice A2 x2.length c2] := hcs
  subst hcs
  exact ⟨z0, z1, A2, c2, x2, rfl, ⟨false, fp, hr⟩, hw⟩
end Frame
end Go.Proofs.Ytgpjgjjadhmkhaa
