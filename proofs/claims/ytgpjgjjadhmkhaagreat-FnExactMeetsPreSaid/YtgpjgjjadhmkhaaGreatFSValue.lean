import Derived.Test.YtgpjgjjadhmkhaaGreatFrameInt
import Derived.Test.YtgpjgjjadhmkhaaGreatPgmDec0
/-
  Arguments of a law, opened: Value (made by tools/ukit.py).
-/
namespace Go.Proofs.YtgpjgjjadhmkhaaGreat
open Go.ChangeShapes Go.WideShapes Go.ChangeAt Go.RowKit Go.Joins Go.Deep
namespace Frame
open RowK Mem
variable {H : Type} {enc : TypeId × Value → H}
set_option maxRecDepth 100000 in
theorem trodU_Value {W : World} {n : Nat} {cs : List Value} {y : DataW H × List MemPlace} (h : DataW.trod enc Tryz.prog W 0 (fun _ => true) true n 104 cs = some y) (hlt : ∀ x ∈ y.2, x.block < W.heap.size) :
    ∃ fp p, Mem.valu.rep false W fp cs p ∧ WfValueU p := by
  obtain ⟨ys, m, _, rfl, hl, hlen, hf⟩ := DataW.trod_struct Tryz.underlying104 h
  obtain ⟨y0, y1, y2, rfl⟩ := list3 (show ys.length = 3 from hlen)
  rw [show Tryz.prog.cellsOf 104 = 3 from by kernel_rfl] at hl
  obtain ⟨v0, v1, v2, rfl⟩ := list3 hl
  have g0 : DataW.trod enc Tryz.prog W 0 (fun _ => true) true m 4 (([v0, v1, v2].drop 0).take (Tryz.prog.cellsOf 4)) = some y0 := hf 0 _ rfl
  rw [show Tryz.prog.cellsOf 4 = 1 from by kernel_rfl] at g0
  have g0 : DataW.trod enc Tryz.prog W 0 (fun _ => true) true m 4 [v0] = some y0 := g0
  have g1 : DataW.trod enc Tryz.prog W 0 (fun _ => true) true m 3 (([v0, v1, v2].drop 1).take (Tryz.prog.cellsOf 3)) = some y1 := hf 1 _ rfl
  rw [show Tryz.prog.cellsOf 3 = 1 from by kernel_rfl] at g1
  have g1 : DataW.trod enc Tryz.prog W 0 (fun _ => true) true m 3 [v1] = some y1 := g1
  have g2 : DataW.trod enc Tryz.prog W 0 (fun _ => true) true m 31 (([v0, v1, v2].drop 2).take (Tryz.prog.cellsOf 31)) = some y2 := hf 2 _ rfl
  rw [show Tryz.prog.cellsOf 31 = 1 from by kernel_rfl] at g2
  have g2 : DataW.trod enc Tryz.prog W 0 (fun _ => true) true m 31 [v2] = some y2 := g2
  obtain ⟨z0, e0, _⟩ := DataW.trod_bool Tryz.underlying4 g0
  obtain rfl : v0 = .bool z0 := by simpa using e0
  obtain ⟨z1, e1, _, hw1⟩ := DataW.trod_int Tryz.underlying3 g1
  obtain rfl : v1 = .int .i64 z1 := by simpa using e1
  obtain ⟨A2, c2, f2, x2, rfl, k2, ha2, hb2⟩ := trod_slice (r := Rep.int) (Wf := WfInt) (by decide) (by kernel_rfl) Tryz.underlying31 (fun h _ => trodU_int Tryz.underlying3 h) g2 (fun x hx => hlt x (by simp [hx]))
  exact ⟨_, (z0, z1, x2), (show Mem.valu.rep false W ([] ++ ([] ++ (f2))) ([.bool z0] ++ ([.int .i64 z1] ++ ([.slice A2 x2.length c2]))) _ from ⟨_, _, _, _, rfl, rfl, ⟨rfl, rfl⟩, ⟨_, _, _, _, rfl, rfl, ⟨rfl, rfl⟩, k2⟩⟩), ⟨trivial, hw1, ha2, hb2⟩⟩
end Frame
end Go.Proofs.YtgpjgjjadhmkhaaGreat

/-
  Arguments of a law, opened: slices of Value (made by tools/uexact.py).
-/
namespace Go.Proofs.YtgpjgjjadhmkhaaGreat
open Go.ChangeShapes Go.WideShapes Go.ChangeAt Go.RowKit Go.Joins Go.Deep
namespace Mem
open RowK
theorem copyValueSA (A : Option Addr) (c : Nat) (xs : List ValueT) (w : World) (h : ArgS valu w A xs.length c xs) (hl : xs.length + szs szValueU xs ≤ 100000000) :
    Calls Tryz.prog 27 #[.slice A xs.length c] w fun e w' => ∃ B, e = .returned (.slice B xs.length xs.length) ∧ OwnS valu w.heap.size w'.heap.size w' B xs.length xs.length xs ∧ Below w.heap.size w w' := by
  obtain ⟨q, fp, h⟩ := h
  exact copyValueSU q fp A c xs w h hl
theorem sizeValueSA (A : Option Addr) (c L : Nat) (xs : List ValueT) (w : World) (h : ArgS valu w A xs.length c xs) (hL : L ≤ 1000000000) (hl : xs.length ≤ 9223372036854775807) (hs : ∀ x ∈ xs, WfValueU x) :
    Calls Tryz.prog 25 #[.slice A xs.length c, .int .i64 L] w fun e w' => e = .returned (.int .i64 (IntK.leftOf L (xs.length + szs szValueU xs))) ∧ Below w.heap.size w w' := by
  obtain ⟨q, fp, h⟩ := h
  exact sizeValueSU q fp A c L xs w h hL hl hs
theorem eqValueSA (A B : Option Addr) (c d : Nat) (xs : List ValueT) (w : World) (h : ArgS valu w A xs.length c xs) (k : ArgS valu w B xs.length d xs) (hl : xs.length + szs szValueU xs ≤ 100000000) :
    Calls Tryz.prog 30 #[.slice A xs.length c, .slice B xs.length d] w fun e w' => e = .returned (.bool true) ∧ Below w.heap.size w w' := by
  obtain ⟨q, fp, h⟩ := h
  obtain ⟨q2, fp2, k⟩ := k
  exact eqValueSU q q2 fp fp2 A B c d xs w h k hl
end Mem
namespace Frame
open RowK Mem
variable {H : Type} {enc : TypeId × Value → H}
set_option maxRecDepth 100000 in
theorem openS_Value {W : World} {v : Value} {d : DataW H} {ps : List MemPlace} {r : Reach} {b0 : Nat} (hv : Value.okWide Tryz.prog W r b0 55 v) (h : DataW.Trod enc Tryz.prog W 0 (fun _ => true) true 55 v d ps) (hlt : ∀ x ∈ ps, x.block < W.heap.size) :
    ∃ (A : Option Addr) (c : Nat) (x : List ValueT), v = .slice A x.length c ∧ ArgS Mem.valu W A x.length c x ∧ x.length ≤ 9223372036854775807 ∧ ∀ e ∈ x, WfValueU e := by
  obtain ⟨a, n, c, rfl⟩ := okWide_slice Tryz.underlying55 hv
  obtain ⟨fuel, hf⟩ := h
  obtain ⟨A, c', fp, xs, e, hr, h1, h2⟩ := trod_slice (r := Mem.valu) (Wf := WfValueU) (by decide) (by kernel_rfl) Tryz.underlying55 (fun h hl => trodU_Value h hl) hf hlt
  injection e with e1 e2 e3
  subst e1; subst e2; subst e3
  exact ⟨a, c, xs, rfl, ⟨false, fp, hr⟩, h1, h2⟩
end Frame
end Go.Proofs.YtgpjgjjadhmkhaaGreat
