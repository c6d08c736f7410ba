import Derived.Test.YtgpjgjjadhmkhaaFrameInt
import Derived.Test.YtgpjgjjadhmkhaaUOutcome
import Derived.Test.YtgpjgjjadhmkhaaFValue
/-
  Arguments of a law, opened: Outcome (made by tools/ukit.py).
-/
namespace Go.Proofs.Ytgpjgjjadhmkhaa
open Go.ChangeShapes Go.WideShapes Go.ChangeAt Go.RowKit Go.Joins Go.Deep
namespace Frame
open RowK Mem
variable {H : Type} {enc : TypeId × Value → H}
set_option maxRecDepth 100000 in
theorem trodU_Outcome {W : World} {n : Nat} {cs : List Value} {y : DataW H × List MemPlace} (h : DataW.trod enc Try.prog W 0 (fun _ => true) true n 33 cs = some y) (hlt : ∀ x ∈ y.2, x.block < W.heap.size) :
    ∃ fp p, Mem.outc.rep false W fp cs p ∧ WfOutcomeU p := by
  obtain ⟨ys, m, _, rfl, hl, hlen, hf⟩ := DataW.trod_struct Try.underlying33 h
  obtain ⟨y0, y1, y2, y3, rfl⟩ := list4 (show ys.length = 4 from hlen)
  rw [show Try.prog.cellsOf 33 = 6 from by kernel_rfl] at hl
  obtain ⟨v0, v1, v2, v3, v4, v5, rfl⟩ := list6 hl
  have g0 : DataW.trod enc Try.prog W 0 (fun _ => true) true m 3 (([v0, v1, v2, v3, v4, v5].drop 0).take (Try.prog.cellsOf 3)) = some y0 := hf 0 _ rfl
  rw [show Try.prog.cellsOf 3 = 1 from by kernel_rfl] at g0
  have g0 : DataW.trod enc Try.prog W 0 (fun _ => true) true m 3 [v0] = some y0 := g0
  have g1 : DataW.trod enc Try.prog W 0 (fun _ => true) true m 24 (([v0, v1, v2, v3, v4, v5].drop 1).take (Try.prog.cellsOf 24)) = some y1 := hf 1 _ rfl
  rw [show Try.prog.cellsOf 24 = 3 from by kernel_rfl] at g1
  have g1 : DataW.trod enc Try.prog W 0 (fun _ => true) true m 24 [v1, v2, v3] = some y1 := g1
  have g2 : DataW.trod enc Try.prog W 0 (fun _ => true) true m 3 (([v0, v1, v2, v3, v4, v5].drop 4).take (Try.prog.cellsOf 3)) = some y2 := hf 2 _ rfl
  rw [show Try.prog.cellsOf 3 = 1 from by kernel_rfl] at g2
  have g2 : DataW.trod enc Try.prog W 0 (fun _ => true) true m 3 [v4] = some y2 := g2
  have g3 : DataW.trod enc Try.prog W 0 (fun _ => true) true m 3 (([v0, v1, v2, v3, v4, v5].drop 5).take (Try.prog.cellsOf 3)) = some y3 := hf 3 _ rfl
  rw [show Try.prog.cellsOf 3 = 1 from by kernel_rfl] at g3
  have g3 : DataW.trod enc Try.prog W 0 (fun _ => true) true m 3 [v5] = some y3 := g3
  obtain ⟨z0, e0, _, hw0⟩ := DataW.trod_int Try.underlying3 g0
  obtain rfl : v0 = .int .i64 z0 := by simpa using e0
  obtain ⟨f1, x1, k1, hw1⟩ := trodU_Value g1 (fun x hx => hlt x (by simp [hx]))
  have k1 : Mem.valu.rep false W f1 [v1, v2, v3] x1 := k1
  obtain ⟨z2, e2, _, hw2⟩ := DataW.trod_int Try.underlying3 g2
  obtain rfl : v4 = .int .i64 z2 := by simpa using e2
  obtain ⟨z3, e3, _, hw3⟩ := DataW.trod_int Try.underlying3 g3
  obtain rfl : v5 = .int .i64 z3 := by simpa using e3
  exact ⟨_, (z0, x1, z2, z3), (show Mem.outc.rep false W ([] ++ (f1 ++ ([] ++ ([])))) ([.int .i64 z0] ++ ([v1, v2, v3] ++ ([.int .i64 z2] ++ ([.int .i64 z3])))) (z0, x1, z2, z3) from ⟨_, _, _, _, rfl, rfl, ⟨rfl, rfl⟩, ⟨_, _, _, _, rfl, rfl, k1, ⟨_, _, _, _, rfl, rfl, ⟨rfl, rfl⟩, ⟨rfl, rfl⟩⟩⟩⟩), ⟨hw0, hw1, hw2, hw3⟩⟩
set_option maxRecDepth 100000 in
theorem openU_Outcome {W : World} {v : Value} {d : DataW H} {ps : List MemPlace} {r : Reach} {b0 : Nat} (hv : Value.okWide Try.prog W r b0 33 v) (h : DataW.Trod enc Try.prog W 0 (fun _ => true) true 33 v d ps) (hlt : ∀ x ∈ ps, x.block < W.heap.size) :
    ∃ (z0 : Int) (z1 : Bool) (z2 : Int) (A3 : Option Addr) (c3 : Nat) (x3 : List Int) (z4 : Int) (z5 : Int), v = .agg #[.int .i64 z0, .bool z1, .int .i64 z2, .slice A3 x3.length c3, .int .i64 z4, .int .i64 z5] ∧ ArgR Mem.outc W [.int .i64 z0, .bool z1, .int .i64 z2, .slice A3 x3.length c3, .int .i64 z4, .int .i64 z5] (z0, (z1, z2, x3), z4, z5) ∧ WfOutcomeU (z0, (z1, z2, x3), z4, z5) := by
  obtain ⟨cs, rfl, hsz⟩ := okWide_struct Try.underlying33 hv
  obtain ⟨fuel, hf⟩ := h
  obtain ⟨fp, p, hr, hw⟩ := trodU_Outcome hf hlt
  obtain ⟨z0, ⟨z1, z2, x3⟩, z4, z5⟩ := p
  obtain ⟨A3, c3, f3, hfp, hcs, r3⟩ := outc_open hr
  have hcs : cs.toList = [.int .i64 z0, .bool z1, .int .i64 z2, .slice A3 x3.length c3, .int .i64 z4, .int .i64 z5] := hcs
  obtain ⟨l⟩ := cs
  have hcs : l = [.int .i64 z0, .bool z1, .int .i64 z2, .slice A3 x3.length c3, .int .i64 z4, .int .i64 z5] := hcs
  subst hcs
  exact ⟨z0, z1, z2, A3, c3, x3, z4, z5, rfl, ⟨false, fp, hr⟩, hw⟩
end Frame
end Go.Proofs.Ytgpjgjjadhmkhaa
