import Derived.Test.YtbbllkhmenpnlaaGreatFrameUni
import Derived.Test.YtbbllkhmenpnlaaGreatUFunction
import Derived.Test.YtbbllkhmenpnlaaGreatUCall
import Derived.Test.YtbbllkhmenpnlaaGreatURule
import Derived.Test.YtbbllkhmenpnlaaGreatUProgram
/-
  Arguments of a law, opened: Function (made by tools/ukit.py).
-/
namespace Go.Proofs.YtbbllkhmenpnlaaGreat
open Go.ChangeShapes Go.WideShapes Go.ChangeAt Go.RowKit Go.Joins Go.Deep
namespace Frame
open RowK Mem
variable {H : Type} {enc : TypeId × Value → H}
set_option maxRecDepth 100000 in
theorem trodU_Function {W : World} {n : Nat} {cs : List Value} {y : DataW H × List MemPlace} (h : DataW.trod enc Tryz.prog W 0 (fun _ => true) true n 137 cs = some y) (hlt : ∀ x ∈ y.2, x.block < W.heap.size) :
  ∃ fp p, Mem.fn.rep false W fp cs p ∧ WfFunctionU p := by
 obtain ⟨ys, m, _, rfl, hl, hlen, hf⟩ := DataW.trod_struct Tryz.underlying137 h
 obtain ⟨y0, y1, y2, y3, rfl⟩ := list4 (show ys.length = 4 from hlen)
 rw [show Tryz.prog.cellsOf 137 = 4 from by kernel_rfl] at hl
 obtain ⟨v0, v1, v2, v3, rfl⟩ := list4 hl
 have g0 : DataW.trod enc Tryz.prog W 0 (fun _ => true) true m 9 (([v0, v1, v2, v3].drop 0).take (Tryz.prog.cellsOf 9)) = some y0 := hf 0 _ rfl
 rw [show Tryz.prog.cellsOf 9 = 1 from by kernel_rfl] at g0
 have g0 : DataW.trod enc Tryz.prog W 0 (fun _ => true) true m 9 [v0] = some y0 := g0
 have g1 : DataW.trod enc Tryz.prog W 0 (fun _ => true) true m 31 (([v0, v1, v2, v3].drop 1).take (Tryz.prog.cellsOf 31)) = some y1 := hf 1 _ rfl
 rw [show Tryz.prog.cellsOf 31 = 1 from by kernel_rfl] at g1
 have g1 : DataW.trod enc Tryz.prog W 0 (fun _ => true) true m 31 [v1] = some y1 := g1
 have g2 : DataW.trod enc Tryz.prog W 0 (fun _ => true) true m 4 (([v0, v1, v2, v3].drop 2).take (Tryz.prog.cellsOf 4)) = some y2 := hf 2 _ rfl
 rw [show Tryz.prog.cellsOf 4 = 1 from by kernel_rfl] at g2
 have g2 : DataW.trod enc Tryz.prog W 0 (fun _ => true) true m 4 [v2] = some y2 := g2
 have g3 : DataW.trod enc Tryz.prog W 0 (fun _ => true) true m 135 (([v0, v1, v2, v3].drop 3).take (Tryz.prog.cellsOf 135)) = some y3 := hf 3 _ rfl
 rw [show Tryz.prog.cellsOf 135 = 1 from by kernel_rfl] at g3
 have g3 : DataW.trod enc Tryz.prog W 0 (fun _ => true) true m 135 [v3] = some y3 := g3
 obtain ⟨z0, e0, _, hw0⟩ := DataW.trod_string Tryz.underlying9 g0
 obtain rfl : v0 = .string z0 := by simpa using e0
 obtain ⟨A1, c1, f1, x1, rfl, k1, ha1, hb1⟩ := trod_slice (r := Rep.str) (Wf := WfStr) (by decide) (by kernel_rfl) Tryz.underlying31 (fun h _ => trodU_str Tryz.underlying9 h) g1 (fun x hx => hlt x (by simp [hx]))
 obtain ⟨z2, e2, _⟩ := DataW.trod_bool Tryz.underlying4 g2
 obtain rfl : v2 = .bool z2 := by simpa using e2
 obtain ⟨A3, c3, f3, x3, rfl, k3, ha3, hb3⟩ := trod_slice (r := Mem.lin) (Wf := WfLinU) (by decide) (by kernel_rfl) Tryz.underlying135 (fun h hl => trodU_lin isLinU h hl) g3 (fun x hx => hlt x (by simp [hx]))
 exact ⟨_, (z0, x1, z2, x3), (show Mem.fn.rep false W ([] ++ (f1 ++ ([] ++ (f3)))) ([.string z0] ++ ([.slice A1 x1.length c1] ++ ([.bool z2] ++ ([.slice A3 x3.length c3])))) _ from ⟨_, _, _, _, rfl, rfl, ⟨rfl, rfl⟩, ⟨_, _, _, _, rfl, rfl, k1, ⟨_, _, _, _, rfl, rfl, ⟨rfl, rfl⟩, k3⟩⟩⟩), ⟨(by unfold maxLen at hw0; exact hw0), ha1, hb1, trivial, ha3, hb3⟩⟩
end Frame
end Go.Proofs.YtbbllkhmenpnlaaGreat

/-
  Arguments of a law, opened: Pattern (made by tools/ukit.py).
-/
namespace Go.Proofs.YtbbllkhmenpnlaaGreat
open Go.ChangeShapes Go.WideShapes Go.ChangeAt Go.RowKit Go.Joins Go.Deep
namespace Frame
open RowK Mem
variable {H : Type} {enc : TypeId × Value → H}
set_option maxRecDepth 100000 in
theorem trodU_Pattern {W : World} {n : Nat} {cs : List Value} {y : DataW H × List MemPlace} (h : DataW.trod enc Tryz.prog W 0 (fun _ => true) true n 208 cs = some y) (hlt : ∀ x ∈ y.2, x.block < W.heap.size) :
  ∃ fp p, Mem.pat.rep false W fp cs p ∧ WfPatternU p := by
 obtain ⟨ys, m, _, rfl, hl, hlen, hf⟩ := DataW.trod_struct Tryz.underlying208 h
 obtain ⟨y0, y1, y2, y3, rfl⟩ := list4 (show ys.length = 4 from hlen)
 rw [show Tryz.prog.cellsOf 208 = 4 from by kernel_rfl] at hl
 obtain ⟨v0, v1, v2, v3, rfl⟩ := list4 hl
 have g0 : DataW.trod enc Tryz.prog W 0 (fun _ => true) true m 9 (([v0, v1, v2, v3].drop 0).take (Tryz.prog.cellsOf 9)) = some y0 := hf 0 _ rfl
 rw [show Tryz.prog.cellsOf 9 = 1 from by kernel_rfl] at g0
 have g0 : DataW.trod enc Tryz.prog W 0 (fun _ => true) true m 9 [v0] = some y0 := g0
 have g1 : DataW.trod enc Tryz.prog W 0 (fun _ => true) true m 4 (([v0, v1, v2, v3].drop 1).take (Tryz.prog.cellsOf 4)) = some y1 := hf 1 _ rfl
 rw [show Tryz.prog.cellsOf 4 = 1 from by kernel_rfl] at g1
 have g1 : DataW.trod enc Tryz.prog W 0 (fun _ => true) true m 4 [v1] = some y1 := g1
 have g2 : DataW.trod enc Tryz.prog W 0 (fun _ => true) true m 9 (([v0, v1, v2, v3].drop 2).take (Tryz.prog.cellsOf 9)) = some y2 := hf 2 _ rfl
 rw [show Tryz.prog.cellsOf 9 = 1 from by kernel_rfl] at g2
 have g2 : DataW.trod enc Tryz.prog W 0 (fun _ => true) true m 9 [v2] = some y2 := g2
 have g3 : DataW.trod enc Tryz.prog W 0 (fun _ => true) true m 9 (([v0, v1, v2, v3].drop 3).take (Tryz.prog.cellsOf 9)) = some y3 := hf 3 _ rfl
 rw [show Tryz.prog.cellsOf 9 = 1 from by kernel_rfl] at g3
 have g3 : DataW.trod enc Tryz.prog W 0 (fun _ => true) true m 9 [v3] = some y3 := g3
 obtain ⟨z0, e0, _, hw0⟩ := DataW.trod_string Tryz.underlying9 g0
 obtain rfl : v0 = .string z0 := by simpa using e0
 obtain ⟨z1, e1, _⟩ := DataW.trod_bool Tryz.underlying4 g1
 obtain rfl : v1 = .bool z1 := by simpa using e1
 obtain ⟨z2, e2, _, hw2⟩ := DataW.trod_string Tryz.underlying9 g2
 obtain rfl : v2 = .string z2 := by simpa using e2
 obtain ⟨z3, e3, _, hw3⟩ := DataW.trod_string Tryz.underlying9 g3
 obtain rfl : v3 = .string z3 := by simpa using e3
 exact ⟨_, (z0, z1, z2, z3), (show Mem.pat.rep false W ([] ++ ([] ++ ([] ++ ([])))) ([.string z0] ++ ([.bool z1] ++ ([.string z2] ++ ([.string z3])))) _ from ⟨_, _, _, _, rfl, rfl, ⟨rfl, rfl⟩, ⟨_, _, _, _, rfl, rfl, ⟨rfl, rfl⟩, ⟨_, _, _, _, rfl, rfl, ⟨rfl, rfl⟩, ⟨rfl, rfl⟩⟩⟩⟩), ⟨(by unfold maxLen at hw0; exact hw0), trivial, (by unfold maxLen at hw2; exact hw2), (by unfold maxLen at hw3; exact hw3)⟩⟩
end Frame
end Go.Proofs.YtbbllkhmenpnlaaGreat

/-
  Arguments of a law, opened: Arg (made by tools/ukit.py).
-/
namespace Go.Proofs.YtbbllkhmenpnlaaGreat
open Go.ChangeShapes Go.WideShapes Go.ChangeAt Go.RowKit Go.Joins Go.Deep
namespace Frame
open RowK Mem
variable {H : Type} {enc : TypeId × Value → H}
set_option maxRecDepth 100000 in
theorem trodU_Arg {W : World} {n : Nat} {cs : List Value} {y : DataW H × List MemPlace} (h : DataW.trod enc Tryz.prog W 0 (fun _ => true) true n 143 cs = some y) (hlt : ∀ x ∈ y.2, x.block < W.heap.size) :
  ∃ fp p, Mem.arg.rep false W fp cs p ∧ WfArgU p := by
 obtain ⟨ys, m, _, rfl, hl, hlen, hf⟩ := DataW.trod_struct Tryz.underlying143 h
 obtain ⟨y0, y1, y2, rfl⟩ := list3 (show ys.length = 3 from hlen)
 rw [show Tryz.prog.cellsOf 143 = 3 from by kernel_rfl] at hl
 obtain ⟨v0, v1, v2, rfl⟩ := list3 hl
 have g0 : DataW.trod enc Tryz.prog W 0 (fun _ => true) true m 4 (([v0, v1, v2].drop 0).take (Tryz.prog.cellsOf 4)) = some y0 := hf 0 _ rfl
 rw [show Tryz.prog.cellsOf 4 = 1 from by kernel_rfl] at g0
 have g0 : DataW.trod enc Tryz.prog W 0 (fun _ => true) true m 4 [v0] = some y0 := g0
 have g1 : DataW.trod enc Tryz.prog W 0 (fun _ => true) true m 140 (([v0, v1, v2].drop 1).take (Tryz.prog.cellsOf 140)) = some y1 := hf 1 _ rfl
 rw [show Tryz.prog.cellsOf 140 = 1 from by kernel_rfl] at g1
 have g1 : DataW.trod enc Tryz.prog W 0 (fun _ => true) true m 140 [v1] = some y1 := g1
 have g2 : DataW.trod enc Tryz.prog W 0 (fun _ => true) true m 9 (([v0, v1, v2].drop 2).take (Tryz.prog.cellsOf 9)) = some y2 := hf 2 _ rfl
 rw [show Tryz.prog.cellsOf 9 = 1 from by kernel_rfl] at g2
 have g2 : DataW.trod enc Tryz.prog W 0 (fun _ => true) true m 9 [v2] = some y2 := g2
 obtain ⟨z0, e0, _⟩ := DataW.trod_bool Tryz.underlying4 g0
 obtain rfl : v0 = .bool z0 := by simpa using e0
 obtain ⟨A1, c1, f1, x1, rfl, k1, ha1, hb1⟩ := trod_slice (r := Mem.sum) (Wf := WfSum) (by decide) (by kernel_rfl) Tryz.underlying140 (fun h hl => trod_sum isSumU h hl) g1 (fun x hx => hlt x (by simp [hx]))
 obtain ⟨z2, e2, _, hw2⟩ := DataW.trod_string Tryz.underlying9 g2
 obtain rfl : v2 = .string z2 := by simpa using e2
 exact ⟨_, (z0, x1, z2), (show Mem.arg.rep false W ([] ++ (f1 ++ ([]))) ([.bool z0] ++ ([.slice A1 x1.length c1] ++ ([.string z2]))) _ from ⟨_, _, _, _, rfl, rfl, ⟨rfl, rfl⟩, ⟨_, _, _, _, rfl, rfl, k1, ⟨rfl, rfl⟩⟩⟩), ⟨trivial, ha1, hb1, (by unfold maxLen at hw2; exact hw2)⟩⟩
end Frame
end Go.Proofs.YtbbllkhmenpnlaaGreat

/-
  Arguments of a law, opened: Call (made by tools/ukit.py).
-/
namespace Go.Proofs.YtbbllkhmenpnlaaGreat
open Go.ChangeShapes Go.WideShapes Go.ChangeAt Go.RowKit Go.Joins Go.Deep
namespace Frame
open RowK Mem
variable {H : Type} {enc : TypeId × Value → H}
set_option maxRecDepth 100000 in
theorem trodU_Call {W : World} {n : Nat} {cs : List Value} {y : DataW H × List MemPlace} (h : DataW.trod enc Tryz.prog W 0 (fun _ => true) true n 216 cs = some y) (hlt : ∀ x ∈ y.2, x.block < W.heap.size) :
  ∃ fp p, Mem.call.rep false W fp cs p ∧ WfCallU p := by
 obtain ⟨ys, m, _, rfl, hl, hlen, hf⟩ := DataW.trod_struct Tryz.underlying216 h
 obtain ⟨y0, y1, y2, rfl⟩ := list3 (show ys.length = 3 from hlen)
 rw [show Tryz.prog.cellsOf 216 = 3 from by kernel_rfl] at hl
 obtain ⟨v0, v1, v2, rfl⟩ := list3 hl
 have g0 : DataW.trod enc Tryz.prog W 0 (fun _ => true) true m 9 (([v0, v1, v2].drop 0).take (Tryz.prog.cellsOf 9)) = some y0 := hf 0 _ rfl
 rw [show Tryz.prog.cellsOf 9 = 1 from by kernel_rfl] at g0
 have g0 : DataW.trod enc Tryz.prog W 0 (fun _ => true) true m 9 [v0] = some y0 := g0
 have g1 : DataW.trod enc Tryz.prog W 0 (fun _ => true) true m 9 (([v0, v1, v2].drop 1).take (Tryz.prog.cellsOf 9)) = some y1 := hf 1 _ rfl
 rw [show Tryz.prog.cellsOf 9 = 1 from by kernel_rfl] at g1
 have g1 : DataW.trod enc Tryz.prog W 0 (fun _ => true) true m 9 [v1] = some y1 := g1
 have g2 : DataW.trod enc Tryz.prog W 0 (fun _ => true) true m 214 (([v0, v1, v2].drop 2).take (Tryz.prog.cellsOf 214)) = some y2 := hf 2 _ rfl
 rw [show Tryz.prog.cellsOf 214 = 1 from by kernel_rfl] at g2
 have g2 : DataW.trod enc Tryz.prog W 0 (fun _ => true) true m 214 [v2] = some y2 := g2
 obtain ⟨z0, e0, _, hw0⟩ := DataW.trod_string Tryz.underlying9 g0
 obtain rfl : v0 = .string z0 := by simpa using e0
 obtain ⟨z1, e1, _, hw1⟩ := DataW.trod_string Tryz.underlying9 g1
 obtain rfl : v1 = .string z1 := by simpa using e1
 obtain ⟨A2, c2, f2, x2, rfl, k2, ha2, hb2⟩ := trod_slice (r := Mem.arg) (Wf := WfArgU) (by decide) (by kernel_rfl) Tryz.underlying214 (fun h hl => trodU_Arg h hl) g2 (fun x hx => hlt x (by simp [hx]))
 exact ⟨_, (z0, z1, x2), (show Mem.call.rep false W ([] ++ ([] ++ (f2))) ([.string z0] ++ ([.string z1] ++ ([.slice A2 x2.length c2]))) _ from ⟨_, _, _, _, rfl, rfl, ⟨rfl, rfl⟩, ⟨_, _, _, _, rfl, rfl, ⟨rfl, rfl⟩, k2⟩⟩), ⟨(by unfold maxLen at hw0; exact hw0), (by unfold maxLen at hw1; exact hw1), ha2, hb2⟩⟩
end Frame
end Go.Proofs.YtbbllkhmenpnlaaGreat

/-
  Arguments of a law, opened: Rule (made by tools/ukit.py).
-/
namespace Go.Proofs.YtbbllkhmenpnlaaGreat
open Go.ChangeShapes Go.WideShapes Go.ChangeAt Go.RowKit Go.Joins Go.Deep
namespace Frame
open RowK Mem
variable {H : Type} {enc : TypeId × Value → H}
set_option maxRecDepth 100000 in
theorem trodU_Rule {W : World} {n : Nat} {cs : List Value} {y : DataW H × List MemPlace} (h : DataW.trod enc Tryz.prog W 0 (fun _ => true) true n 145 cs = some y) (hlt : ∀ x ∈ y.2, x.block < W.heap.size) :
  ∃ fp p, Mem.rule.rep false W fp cs p ∧ WfRuleU p := by
 obtain ⟨ys, m, _, rfl, hl, hlen, hf⟩ := DataW.trod_struct Tryz.underlying145 h
 obtain ⟨y0, y1, y2, y3, y4, rfl⟩ := list5 (show ys.length = 5 from hlen)
 rw [show Tryz.prog.cellsOf 145 = 7 from by kernel_rfl] at hl
 obtain ⟨v0, v1, v2, v3, v4, v5, v6, rfl⟩ := list7 hl
 have g0 : DataW.trod enc Tryz.prog W 0 (fun _ => true) true m 9 (([v0, v1, v2, v3, v4, v5, v6].drop 0).take (Tryz.prog.cellsOf 9)) = some y0 := hf 0 _ rfl
 rw [show Tryz.prog.cellsOf 9 = 1 from by kernel_rfl] at g0
 have g0 : DataW.trod enc Tryz.prog W 0 (fun _ => true) true m 9 [v0] = some y0 := g0
 have g1 : DataW.trod enc Tryz.prog W 0 (fun _ => true) true m 139 (([v0, v1, v2, v3, v4, v5, v6].drop 1).take (Tryz.prog.cellsOf 139)) = some y1 := hf 1 _ rfl
 rw [show Tryz.prog.cellsOf 139 = 1 from by kernel_rfl] at g1
 have g1 : DataW.trod enc Tryz.prog W 0 (fun _ => true) true m 139 [v1] = some y1 := g1
 have g2 : DataW.trod enc Tryz.prog W 0 (fun _ => true) true m 140 (([v0, v1, v2, v3, v4, v5, v6].drop 2).take (Tryz.prog.cellsOf 140)) = some y2 := hf 2 _ rfl
 rw [show Tryz.prog.cellsOf 140 = 1 from by kernel_rfl] at g2
 have g2 : DataW.trod enc Tryz.prog W 0 (fun _ => true) true m 140 [v2] = some y2 := g2
 have g3 : DataW.trod enc Tryz.prog W 0 (fun _ => true) true m 141 (([v0, v1, v2, v3, v4, v5, v6].drop 3).take (Tryz.prog.cellsOf 141)) = some y3 := hf 3 _ rfl
 rw [show Tryz.prog.cellsOf 141 = 1 from by kernel_rfl] at g3
 have g3 : DataW.trod enc Tryz.prog W 0 (fun _ => true) true m 141 [v3] = some y3 := g3
 have g4 : DataW.trod enc Tryz.prog W 0 (fun _ => true) true m 143 (([v0, v1, v2, v3, v4, v5, v6].drop 4).take (Tryz.prog.cellsOf 143)) = some y4 := hf 4 _ rfl
 rw [show Tryz.prog.cellsOf 143 = 3 from by kernel_rfl] at g4
 have g4 : DataW.trod enc Tryz.prog W 0 (fun _ => true) true m 143 [v4, v5, v6] = some y4 := g4
 obtain ⟨z0, e0, _, hw0⟩ := DataW.trod_string Tryz.underlying9 g0
 obtain rfl : v0 = .string z0 := by simpa using e0
 obtain ⟨A1, c1, f1, x1, rfl, k1, ha1, hb1⟩ := trod_slice (r := Mem.pat) (Wf := WfPatternU) (by decide) (by kernel_rfl) Tryz.underlying139 (fun h hl => trodU_Pattern h hl) g1 (fun x hx => hlt x (by simp [hx]))
 obtain ⟨A2, c2, f2, x2, rfl, k2, ha2, hb2⟩ := trod_slice (r := Mem.sum) (Wf := WfSum) (by decide) (by kernel_rfl) Tryz.underlying140 (fun h hl => trod_sum isSumU h hl) g2 (fun x hx => hlt x (by simp [hx]))
 obtain ⟨A3, c3, f3, x3, rfl, k3, ha3, hb3⟩ := trod_slice (r := Mem.call) (Wf := WfCallU) (by decide) (by kernel_rfl) Tryz.underlying141 (fun h hl => trodU_Call h hl) g3 (fun x hx => hlt x (by simp [hx]))
 obtain ⟨f4, x4, k4, hw4⟩ := trodU_Arg g4 (fun x hx => hlt x (by simp [hx]))
 have k4 : Mem.arg.rep false W f4 [v4, v5, v6] x4 := k4
 exact ⟨_, (z0, x1, x2, x3, x4), (show Mem.rule.rep false W ([] ++ (f1 ++ (f2 ++ (f3 ++ (f4))))) ([.string z0] ++ ([.slice A1 x1.length c1] ++ ([.slice A2 x2.length c2] ++ ([.slice A3 x3.length c3] ++ ([v4, v5, v6]))))) _ from ⟨_, _, _, _, rfl, rfl, ⟨rfl, rfl⟩, ⟨_, _, _, _, rfl, rfl, k1, ⟨_, _, _, _, rfl, rfl, k2, ⟨_, _, _, _, rfl, rfl, k3, k4⟩⟩⟩⟩), ⟨(by unfold maxLen at hw0; exact hw0), ha1, hb1, ha2, hb2, ha3, hb3, hw4⟩⟩
end Frame
end Go.Proofs.YtbbllkhmenpnlaaGreat

/-
  Arguments of a law, opened: Program (made by tools/ukit.py).
-/
namespace Go.Proofs.YtbbllkhmenpnlaaGreat
open Go.ChangeShapes Go.WideShapes Go.ChangeAt Go.RowKit Go.Joins Go.Deep
namespace Frame
open RowK Mem
variable {H : Type} {enc : TypeId × Value → H}
set_option maxRecDepth 100000 in
theorem trodU_Program {W : World} {n : Nat} {cs : List Value} {y : DataW H × List MemPlace} (h : DataW.trod enc Tryz.prog W 0 (fun _ => true) true n 56 cs = some y) (hlt : ∀ x ∈ y.2, x.block < W.heap.size) :
  ∃ fp p, Mem.prg.rep false W fp cs p ∧ WfProgramU p := by
 obtain ⟨ys, m, _, rfl, hl, hlen, hf⟩ := DataW.trod_struct Tryz.underlying56 h
 obtain ⟨y0, y1, rfl⟩ := list2 (show ys.length = 2 from hlen)
 rw [show Tryz.prog.cellsOf 56 = 2 from by kernel_rfl] at hl
 obtain ⟨v0, v1, rfl⟩ := list2 hl
 have g0 : DataW.trod enc Tryz.prog W 0 (fun _ => true) true m 53 (([v0, v1].drop 0).take (Tryz.prog.cellsOf 53)) = some y0 := hf 0 _ rfl
 rw [show Tryz.prog.cellsOf 53 = 1 from by kernel_rfl] at g0
 have g0 : DataW.trod enc Tryz.prog W 0 (fun _ => true) true m 53 [v0] = some y0 := g0
 have g1 : DataW.trod enc Tryz.prog W 0 (fun _ => true) true m 54 (([v0, v1].drop 1).take (Tryz.prog.cellsOf 54)) = some y1 := hf 1 _ rfl
 rw [show Tryz.prog.cellsOf 54 = 1 from by kernel_rfl] at g1
 have g1 : DataW.trod enc Tryz.prog W 0 (fun _ => true) true m 54 [v1] = some y1 := g1
 obtain ⟨A0, c0, f0, x0, rfl, k0, ha0, hb0⟩ := trod_slice (r := Mem.fn) (Wf := WfFunctionU) (by decide) (by kernel_rfl) Tryz.underlying53 (fun h hl => trodU_Function h hl) g0 (fun x hx => hlt x (by simp [hx]))
 obtain ⟨A1, c1, f1, x1, rfl, k1, ha1, hb1⟩ := trod_slice (r := Mem.rule) (Wf := WfRuleU) (by decide) (by kernel_rfl) Tryz.underlying54 (fun h hl => trodU_Rule h hl) g1 (fun x hx => hlt x (by simp [hx]))
 exact ⟨_, (x0, x1), (show Mem.prg.rep false W (f0 ++ (f1)) ([.slice A0 x0.length c0] ++ ([.slice A1 x1.length c1])) _ from ⟨_, _, _, _, rfl, rfl, k0, k1⟩), ⟨ha0, hb0, ha1, hb1⟩⟩
set_option maxRecDepth 100000 in
theorem openU_Program {W : World} {v : Value} {d : DataW H} {ps : List MemPlace} {r : Reach} {b0 : Nat} (hv : Value.okWide Tryz.prog W r b0 56 v) (h : DataW.Trod enc Tryz.prog W 0 (fun _ => true) true 56 v d ps) (hlt : ∀ x ∈ ps, x.block < W.heap.size) :
  ∃ (A0 : Option Addr) (c0 : Nat) (x0 : List FunctionT) (A1 : Option Addr) (c1 : Nat) (x1 : List RuleT), v = .agg #[.slice A0 x0.length c0, .slice A1 x1.length c1] ∧ ArgR Mem.prg W [.slice A0 x0.length c0, .slice A1 x1.length c1] (x0, x1) ∧ WfProgramU (x0, x1) := by
 obtain ⟨cs, rfl, hsz⟩ := okWide_struct Tryz.underlying56 hv
 obtain ⟨fuel, hf⟩ := h
 obtain ⟨fp, p, hr, hw⟩ := trodU_Program hf hlt
 obtain ⟨x0, x1⟩ := p
 obtain ⟨A0, c0, f0, A1, c1, f1, hfp, hcs, r0, r1⟩ := prg_open hr
 have hcs : cs.toList = [.slice A0 x0.length c0, .slice A1 x1.length c1] := hcs
 obtain ⟨l⟩ := cs
 have hcs : l = [.slice A0 x0.length c0, .slice A1 x1.length c1] := hcs
 subst hcs
 exact ⟨A0, c0, x0, A1, c1, x1, rfl, ⟨false, fp, hr⟩, hw⟩
end Frame
end Go.Proofs.YtbbllkhmenpnlaaGreat
