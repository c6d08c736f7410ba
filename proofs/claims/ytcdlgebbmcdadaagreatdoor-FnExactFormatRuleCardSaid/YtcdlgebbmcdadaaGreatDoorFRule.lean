import Derived.Test.YtcdlgebbmcdadaaGreatDoorFrameUni
import Derived.Test.YtcdlgebbmcdadaaGreatDoorUCall
import Derived.Test.YtcdlgebbmcdadaaGreatDoorURule
/-
  Arguments of a law, opened: Pattern (made by tools/ukit.py).
-/
namespace Go.Proofs.YtcdlgebbmcdadaaGreatDoor
open Go.ChangeShapes Go.WideShapes Go.ChangeAt Go.RowKit Go.Joins Go.Deep
namespace Frame
open RowK Mem
variable {H : Type} {enc : TypeId × Value → H}
set_option maxRecDepth 100000 in
theorem trodU_Pattern {W : World} {n : Nat} {cs : List Value} {y : DataW H × List MemPlace} (h : DataW.trod enc Tryz.prog W 0 (fun _ => true) true n 68 cs = some y) (hlt : ∀ x ∈ y.2, x.block < W.heap.size) :
    ∃ fp p, Mem.pat.rep false W fp cs p ∧ WfPatternU p := by
  obtain ⟨ys, m, _, rfl, hl, hlen, hf⟩ := DataW.trod_struct Tryz.underlying68 h
  obtain ⟨y0, y1, y2, y3, rfl⟩ := list4 (show ys.length = 4 from hlen)
  rw [show Tryz.prog.cellsOf 68 = 4 from by kernel_rfl] at hl
  obtain ⟨v0, v1, v2, v3, rfl⟩ := list4 hl
  have g0 : DataW.trod enc Tryz.prog W 0 (fun _ => true) true m 9 (([v0, v1, v2, v3].drop 0).take (Tryz.prog.cellsOf 9)) = some y0 := hf 0 _ rfl
  rw [show Tryz.prog.cellsOf 9 = 1 from by kernel_rfl] at g0
  have g0 : DataW.trod enc Tryz.prog W 0 (fun _ => true) true m 9 [v0] = some y0 := g0
  have g1 : DataW.trod enc Tryz.prog W 0 (fun _ => true) true m 4 (([v0, v1, v2, v3].drop 1).take (Tryz.prog.cellsOf 4)) = some y1 := hf 1 _ rfl
  rw [show Tryz.prog.cellsOf 4 = 1 from by kernel_rfl] at g1
  have g1 : DataW.trod enc Tryz.prog W 0 (fun _ => true) true m 4 [v1] = some y1 := g1
  have g2 : DataW.trod enc Tryz.prog W 0 (fun _ => true) true m 9 (([v0, v1, v2, v3].drop 2).take (Tryz.prog.cellsOf 9)) = some y2 := hf 2 _ rfl
  rw [show Tryz.prog.cellsOf 9 = 1 from by kernel_rfl] at g2
  have g2 : DataW.trod enc Tryz.prog W 0 (fun _ => true) true m 9 [v2] = some y2 := g2
  have g3 : DataW.trod enc Tryz.prog W 0 (fun _ => true) true m 9 (([v0, v1, v2, v3].drop 3).take (Tryz.prog.cellsOf 9)) = some y3 := hf 3 _ rfl
  rw [show Tryz.prog.cellsOf 9 = 1 from by kernel_rfl] at g3
  have g3 : DataW.trod enc Tryz.prog W 0 (fun _ => true) true m 9 [v3] = some y3 := g3
  obtain ⟨z0, e0, _, hw0⟩ := DataW.trod_string Tryz.underlying9 g0
  obtain rfl : v0 = .string z0 := by simpa using e0
  obtain ⟨z1, e1, _⟩ := DataW.trod_bool Tryz.underlying4 g1
  obtain rfl : v1 = .bool z1 := by simpa using e1
  obtain ⟨z2, e2, _, hw2⟩ := DataW.trod_string Tryz.underlying9 g2
  obtain rfl : v2 = .string z2 := by simpa using e2
  obtain ⟨z3, e3, _, hw3⟩ := DataW.trod_string Tryz.underlying9 g3
  obtain rfl : v3 = .string z3 := by simpa using e3
  exact ⟨_, (z0, z1, z2, z3), (show Mem.pat.rep false W ([] ++ ([] ++ ([] ++ ([])))) ([.string z0] ++ ([.bool z1] ++ ([.string z2] ++ ([.string z3])))) _ from ⟨_, _, _, _, rfl, rfl, ⟨rfl, rfl⟩, ⟨_, _, _, _, rfl, rfl, ⟨rfl, rfl⟩, ⟨_, _, _, _, rfl, rfl, ⟨rfl, rfl⟩, ⟨rfl, rfl⟩⟩⟩⟩), ⟨(by unfold maxLen at hw0; exact hw0), trivial, (by unfold maxLen at hw2; exact hw2), (by unfold maxLen at hw3; exact hw3)⟩⟩
end Frame
end Go.Proofs.YtcdlgebbmcdadaaGreatDoor

/-
  Arguments of a law, opened: Arg (made by tools/ukit.py).
-/
namespace Go.Proofs.YtcdlgebbmcdadaaGreatDoor
open Go.ChangeShapes Go.WideShapes Go.ChangeAt Go.RowKit Go.Joins Go.Deep
namespace Frame
open RowK Mem
variable {H : Type} {enc : TypeId × Value → H}
set_option maxRecDepth 100000 in
theorem trodU_Arg {W : World} {n : Nat} {cs : List Value} {y : DataW H × List MemPlace} (h : DataW.trod enc Tryz.prog W 0 (fun _ => true) true n 26 cs = some y) (hlt : ∀ x ∈ y.2, x.block < W.heap.size) :
    ∃ fp p, Mem.arg.rep false W fp cs p ∧ WfArgU p := by
  obtain ⟨ys, m, _, rfl, hl, hlen, hf⟩ := DataW.trod_struct Tryz.underlying26 h
  obtain ⟨y0, y1, y2, rfl⟩ := list3 (show ys.length = 3 from hlen)
  rw [show Tryz.prog.cellsOf 26 = 3 from by kernel_rfl] at hl
  obtain ⟨v0, v1, v2, rfl⟩ := list3 hl
  have g0 : DataW.trod enc Tryz.prog W 0 (fun _ => true) true m 4 (([v0, v1, v2].drop 0).take (Tryz.prog.cellsOf 4)) = some y0 := hf 0 _ rfl
  rw [show Tryz.prog.cellsOf 4 = 1 from by kernel_rfl] at g0
  have g0 : DataW.trod enc Tryz.prog W 0 (fun _ => true) true m 4 [v0] = some y0 := g0
  have g1 : DataW.trod enc Tryz.prog W 0 (fun _ => true) true m 23 (([v0, v1, v2].drop 1).take (Tryz.prog.cellsOf 23)) = some y1 := hf 1 _ rfl
  rw [show Tryz.prog.cellsOf 23 = 1 from by kernel_rfl] at g1
  have g1 : DataW.trod enc Tryz.prog W 0 (fun _ => true) true m 23 [v1] = some y1 := g1
  have g2 : DataW.trod enc Tryz.prog W 0 (fun _ => true) true m 9 (([v0, v1, v2].drop 2).take (Tryz.prog.cellsOf 9)) = some y2 := hf 2 _ rfl
  rw [show Tryz.prog.cellsOf 9 = 1 from by kernel_rfl] at g2
  have g2 : DataW.trod enc Tryz.prog W 0 (fun _ => true) true m 9 [v2] = some y2 := g2
  obtain ⟨z0, e0, _⟩ := DataW.trod_bool Tryz.underlying4 g0
  obtain rfl : v0 = .bool z0 := by simpa using e0
  obtain ⟨A1, c1, f1, x1, rfl, k1, ha1, hb1⟩ := trod_slice (r := Mem.sum) (Wf := WfSum) (by decide) (by kernel_rfl) Tryz.underlying23 (fun h hl => trod_sum isSumU h hl) g1 (fun x hx => hlt x (by simp [hx]))
  obtain ⟨z2, e2, _, hw2⟩ := DataW.trod_string Tryz.underlying9 g2
  obtain rfl : v2 = .string z2 := by simpa using e2
  exact ⟨_, (z0, x1, z2), (show Mem.arg.rep false W ([] ++ (f1 ++ ([]))) ([.bool z0] ++ ([.slice A1 x1.length c1] ++ ([.string z2]))) _ from ⟨_, _, _, _, rfl, rfl, ⟨rfl, rfl⟩, ⟨_, _, _, _, rfl, rfl, k1, ⟨rfl, rfl⟩⟩⟩), ⟨trivial, ha1, hb1, (by unfold maxLen at hw2; exact hw2)⟩⟩
end Frame
end Go.Proofs.YtcdlgebbmcdadaaGreatDoor

/-
  Arguments of a law, opened: Call (made by tools/ukit.py).
-/
namespace Go.Proofs.YtcdlgebbmcdadaaGreatDoor
open Go.ChangeShapes Go.WideShapes Go.ChangeAt Go.RowKit Go.Joins Go.Deep
namespace Frame
open RowK Mem
variable {H : Type} {enc : TypeId × Value → H}
set_option maxRecDepth 100000 in
theorem trodU_Call {W : World} {n : Nat} {cs : List Value} {y : DataW H × List MemPlace} (h : DataW.trod enc Tryz.prog W 0 (fun _ => true) true n 76 cs = some y) (hlt : ∀ x ∈ y.2, x.block < W.heap.size) :
    ∃ fp p, Mem.call.rep false W fp cs p ∧ WfCallU p := by
  obtain ⟨ys, m, _, rfl, hl, hlen, hf⟩ := DataW.trod_struct Tryz.underlying76 h
  obtain ⟨y0, y1, y2, rfl⟩ := list3 (show ys.length = 3 from hlen)
  rw [show Tryz.prog.cellsOf 76 = 3 from by kernel_rfl] at hl
  obtain ⟨v0, v1, v2, rfl⟩ := list3 hl
  have g0 : DataW.trod enc Tryz.prog W 0 (fun _ => true) true m 9 (([v0, v1, v2].drop 0).take (Tryz.prog.cellsOf 9)) = some y0 := hf 0 _ rfl
  rw [show Tryz.prog.cellsOf 9 = 1 from by kernel_rfl] at g0
  have g0 : DataW.trod enc Tryz.prog W 0 (fun _ => true) true m 9 [v0] = some y0 := g0
  have g1 : DataW.trod enc Tryz.prog W 0 (fun _ => true) true m 9 (([v0, v1, v2].drop 1).take (Tryz.prog.cellsOf 9)) = some y1 := hf 1 _ rfl
  rw [show Tryz.prog.cellsOf 9 = 1 from by kernel_rfl] at g1
  have g1 : DataW.trod enc Tryz.prog W 0 (fun _ => true) true m 9 [v1] = some y1 := g1
  have g2 : DataW.trod enc Tryz.prog W 0 (fun _ => true) true m 74 (([v0, v1, v2].drop 2).take (Tryz.prog.cellsOf 74)) = some y2 := hf 2 _ rfl
  rw [show Tryz.prog.cellsOf 74 = 1 from by kernel_rfl] at g2
  have g2 : DataW.trod enc Tryz.prog W 0 (fun _ => true) true m 74 [v2] = some y2 := g2
  obtain ⟨z0, e0, _, hw0⟩ := DataW.trod_string Tryz.underlying9 g0
  obtain rfl : v0 = .string z0 := by simpa using e0
  obtain ⟨z1, e1, _, hw1⟩ := DataW.trod_string Tryz.underlying9 g1
  obtain rfl : v1 = .string z1 := by simpa using e1
  obtain ⟨A2, c2, f2, x2, rfl, k2, ha2, hb2⟩ := trod_slice (r := Mem.arg) (Wf := WfArgU) (by decide) (by kernel_rfl) Tryz.underlying74 (fun h hl => trodU_Arg h hl) g2 (fun x hx => hlt x (by simp [hx]))
  exact ⟨_, (z0, z1, x2), (show Mem.call.rep false W ([] ++ ([] ++ (f2))) ([.string z0] ++ ([.string z1] ++ ([.slice A2 x2.length c2]))) _ from ⟨_, _, _, _, rfl, rfl, ⟨rfl, rfl⟩, ⟨_, _, _, _, rfl, rfl, ⟨rfl, rfl⟩, k2⟩⟩), ⟨(by unfold maxLen at hw0; exact hw0), (by unfold maxLen at hw1; exact hw1), ha2, hb2⟩⟩
end Frame
end Go.Proofs.YtcdlgebbmcdadaaGreatDoor

/-
  Arguments of a law, opened: Rule (made by tools/ukit.py).
-/
namespace Go.Proofs.YtcdlgebbmcdadaaGreatDoor
open Go.ChangeShapes Go.WideShapes Go.ChangeAt Go.RowKit Go.Joins Go.Deep
namespace Frame
open RowK Mem
variable {H : Type} {enc : TypeId × Value → H}
set_option maxRecDepth 100000 in
theorem trodU_Rule {W : World} {n : Nat} {cs : List Value} {y : DataW H × List MemPlace} (h : DataW.trod enc Tryz.prog W 0 (fun _ => true) true n 28 cs = some y) (hlt : ∀ x ∈ y.2, x.block < W.heap.size) :
    ∃ fp p, Mem.rule.rep false W fp cs p ∧ WfRuleU p := by
  obtain ⟨ys, m, _, rfl, hl, hlen, hf⟩ := DataW.trod_struct Tryz.underlying28 h
  obtain ⟨y0, y1, y2, y3, y4, rfl⟩ := list5 (show ys.length = 5 from hlen)
  rw [show Tryz.prog.cellsOf 28 = 7 from by kernel_rfl] at hl
  obtain ⟨v0, v1, v2, v3, v4, v5, v6, rfl⟩ := list7 hl
  have g0 : DataW.trod enc Tryz.prog W 0 (fun _ => true) true m 9 (([v0, v1, v2, v3, v4, v5, v6].drop 0).take (Tryz.prog.cellsOf 9)) = some y0 := hf 0 _ rfl
  rw [show Tryz.prog.cellsOf 9 = 1 from by kernel_rfl] at g0
  have g0 : DataW.trod enc Tryz.prog W 0 (fun _ => true) true m 9 [v0] = some y0 := g0
  have g1 : DataW.trod enc Tryz.prog W 0 (fun _ => true) true m 22 (([v0, v1, v2, v3, v4, v5, v6].drop 1).take (Tryz.prog.cellsOf 22)) = some y1 := hf 1 _ rfl
  rw [show Tryz.prog.cellsOf 22 = 1 from by kernel_rfl] at g1
  have g1 : DataW.trod enc Tryz.prog W 0 (fun _ => true) true m 22 [v1] = some y1 := g1
  have g2 : DataW.trod enc Tryz.prog W 0 (fun _ => true) true m 23 (([v0, v1, v2, v3, v4, v5, v6].drop 2).take (Tryz.prog.cellsOf 23)) = some y2 := hf 2 _ rfl
  rw [show Tryz.prog.cellsOf 23 = 1 from by kernel_rfl] at g2
  have g2 : DataW.trod enc Tryz.prog W 0 (fun _ => true) true m 23 [v2] = some y2 := g2
  have g3 : DataW.trod enc Tryz.prog W 0 (fun _ => true) true m 24 (([v0, v1, v2, v3, v4, v5, v6].drop 3).take (Tryz.prog.cellsOf 24)) = some y3 := hf 3 _ rfl
  rw [show Tryz.prog.cellsOf 24 = 1 from by kernel_rfl] at g3
  have g3 : DataW.trod enc Tryz.prog W 0 (fun _ => true) true m 24 [v3] = some y3 := g3
  have g4 : DataW.trod enc Tryz.prog W 0 (fun _ => true) true m 26 (([v0, v1, v2, v3, v4, v5, v6].drop 4).take (Tryz.prog.cellsOf 26)) = some y4 := hf 4 _ rfl
  rw [show Tryz.prog.cellsOf 26 = 3 from by kernel_rfl] at g4
  have g4 : DataW.trod enc Tryz.prog W 0 (fun _ => true) true m 26 [v4, v5, v6] = some y4 := g4
  obtain ⟨z0, e0, _, hw0⟩ := DataW.trod_string Tryz.underlying9 g0
  obtain rfl : v0 = .string z0 := by simpa using e0
  obtain ⟨A1, c1, f1, x1, rfl, k1, ha1, hb1⟩ := trod_slice (r := Mem.pat) (Wf := WfPatternU) (by decide) (by kernel_rfl) Tryz.underlying22 (fun h hl => trodU_Pattern h hl) g1 (fun x hx => hlt x (by simp [hx]))
  obtain ⟨A2, c2, f2, x2, rfl, k2, ha2, hb2⟩ := trod_slice (r := Mem.sum) (Wf := WfSum) (by decide) (by kernel_rfl) Tryz.underlying23 (fun h hl => trod_sum isSumU h hl) g2 (fun x hx => hlt x (by simp [hx]))
  obtain ⟨A3, c3, f3, x3, rfl, k3, ha3, hb3⟩ := trod_slice (r := Mem.call) (Wf := WfCallU) (by decide) (by kernel_rfl) Tryz.underlying24 (fun h hl => trodU_Call h hl) g3 (fun x hx => hlt x (by simp [hx]))
  obtain ⟨f4, x4, k4, hw4⟩ := trodU_Arg g4 (fun x hx => hlt x (by simp [hx]))
  have k4 : Mem.arg.rep false W f4 [v4, v5, v6] x4 := k4
  exact ⟨_, (z0, x1, x2, x3, x4), (show Mem.rule.rep false W ([] ++ (f1 ++ (f2 ++ (f3 ++ (f4))))) ([.string z0] ++ ([.slice A1 x1.length c1] ++ ([.slice A2 x2.length c2] ++ ([.slice A3 x3.length c3] ++ ([v4, v5, v6]))))) _ from ⟨_, _, _, _, rfl, rfl, ⟨rfl, rfl⟩, ⟨_, _, _, _, rfl, rfl, k1, ⟨_, _, _, _, rfl, rfl, k2, ⟨_, _, _, _, rfl, rfl, k3, k4⟩⟩⟩⟩), ⟨(by unfold maxLen at hw0; exact hw0), ha1, hb1, ha2, hb2, ha3, hb3, hw4⟩⟩
set_option maxRecDepth 100000 in
theorem openU_Rule {W : World} {v : Value} {d : DataW H} {ps : List MemPlace} {r : Reach} {b0 : Nat} (hv : Value.okWide Tryz.prog W r b0 28 v) (h : DataW.Trod enc Tryz.prog W 0 (fun _ => true) true 28 v d ps) (hlt : ∀ x ∈ ps, x.block < W.heap.size) :
    ∃ (z0 : ByteArray) (A1 : Option Addr) (c1 : Nat) (x1 : List PatternT) (A2 : Option Addr) (c2 : Nat) (x2 : List SumT) (A3 : Option Addr) (c3 : Nat) (x3 : List CallT) (z4 : Bool) (A5 : Option Addr) (c5 : Nat) (x5 : List SumT) (z6 : ByteArray), v = .agg #[.string z0, .slice A1 x1.length c1, .slice A2 x2.length c2, .slice A3 x3.length c3, .bool z4, .slice A5 x5.length c5, .string z6] ∧ ArgR Mem.rule W [.string z0, .slice A1 x1.length c1, .slice A2 x2.length c2, .slice A3 x3.length c3, .bool z4, .slice A5 x5.length c5, .string z6] (z0, x1, x2, x3, (z4, x5, z6)) ∧ WfRuleU (z0, x1, x2, x3, (z4, x5, z6)) := by
  obtain ⟨cs, rfl, hsz⟩ := okWide_struct Tryz.underlying28 hv
  obtain ⟨fuel, hf⟩ := h
  obtain ⟨fp, p, hr, hw⟩ := trodU_Rule hf hlt
  obtain ⟨z0, x1, x2, x3, ⟨z4, x5, z6⟩⟩ := p
  obtain ⟨A1, c1, f1, A2, c2, f2, A3, c3, f3, A5, c5, f5, hfp, hcs, r1, r2, r3, r5⟩ := rule_open hr
  have hcs : cs.toList = [.string z0, .slice A1 x1.length c1, .slice A2 x2.length c2, .slice A3 x3.length c3, .bool z4, .slice A5 x5.length c5, .string z6] := hcs
  obtain ⟨l⟩ := cs
  have hcs : l = [.string z0, .slice A1 x1.length c1, .slice A2 x2.length c2, .slice A3 x3.length c3, .bool z4, .slice A5 x5.length c5, .string z6] := hcs
  subst hcs
  exact ⟨z0, A1, c1, x1, A2, c2, x2, A3, c3, x3, z4, A5, c5, x5, z6, rfl, ⟨false, fp, hr⟩, hw⟩
end Frame
end Go.Proofs.YtcdlgebbmcdadaaGreatDoor
