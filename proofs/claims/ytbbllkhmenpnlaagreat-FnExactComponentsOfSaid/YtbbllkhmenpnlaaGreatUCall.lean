import Derived.Test.YtbbllkhmenpnlaaGreatRepUni
import Derived.Deep.RegionLaw
import Derived.Deep.RegionHeld3
/-
  The laws' helpers on Pattern: copies, sizes, comparison, marks (made by tools/ukit.py).
-/
namespace Go.Proofs.YtbbllkhmenpnlaaGreat
open Go.RowKit
namespace Mem
open RowK

abbrev PatternT := ByteArray × Bool × ByteArray × ByteArray
def pat : Rep PatternT := Rep.prod Rep.str (Rep.prod Rep.bool (Rep.prod Rep.str Rep.str))
theorem pat_open {q : Bool} {w : World} {fp : List Nat} {cs : List Value} {p : PatternT} (h : pat.rep q w fp cs p) : fp = [] ∧ cs = [.string p.1, .bool p.2.1, .string p.2.2.1, .string p.2.2.2] := by
 obtain ⟨g0, g0', d0, d0', rfl, rfl, k0, h'⟩ := h
 obtain ⟨rfl, rfl⟩ := k0
 obtain ⟨g1, g1', d1, d1', rfl, rfl, k1, h''⟩ := h'
 obtain ⟨rfl, rfl⟩ := k1
 obtain ⟨g2, g2', d2, d2', rfl, rfl, k2, h'''⟩ := h''
 obtain ⟨rfl, rfl⟩ := k2
 obtain ⟨rfl, rfl⟩ := h'''
 exact ⟨by simp, rfl⟩
theorem pat_close {q : Bool} {w : World}  (z0 : ByteArray) (z1 : Bool) (z2 : ByteArray) (z3 : ByteArray)  : pat.rep q w ([]) [.string z0, .bool z1, .string z2, .string z3] (z0, z1, z2, z3) := by
 have e : ([] : List Nat) = [] ++ ([] ++ ([] ++ ([]))) := by simp
 rw [e]
 exact (show pat.rep q w ([] ++ ([] ++ ([] ++ ([])))) ([.string z0] ++ ([.bool z1] ++ ([.string z2] ++ ([.string z3])))) _ from ⟨_, _, _, _, rfl, rfl, ⟨rfl, rfl⟩, ⟨_, _, _, _, rfl, rfl, ⟨rfl, rfl⟩, ⟨_, _, _, _, rfl, rfl, ⟨rfl, rfl⟩, ⟨rfl, rfl⟩⟩⟩⟩)
theorem pats_at {q : Bool} {w : World} {fp : List Nat} {A : Option Addr} {n c : Nat} {xs : List PatternT} (h : (Rep.slice pat).rep q w fp [.slice A n c] xs) {k : Nat} (hk : k < xs.length) :
  ∃ b o, A = some ⟨b, o, none⟩ ∧ b < w.heap.size ∧ w.cell? ⟨b, o + k * 4, none⟩ = some (.string xs[k].1) ∧ w.cell? ⟨b, o + k * 4 + 1, none⟩ = some (.bool xs[k].2.1) ∧ w.cell? ⟨b, o + k * 4 + 2, none⟩ = some (.string xs[k].2.2.1) ∧ w.cell? ⟨b, o + k * 4 + 3, none⟩ = some (.string xs[k].2.2.2) := by
 obtain ⟨b, o, f, cs, rfl, hb, hr, hc, _⟩ := slice_at h hk
 obtain ⟨_, rfl⟩ := pat_open hr
 have hn : pat.n = 4 := rfl
 rw [hn] at hc
 exact ⟨b, o, rfl, hb, hc 0 (by omega), hc 1 (by omega), hc 2 (by omega), hc 3 (by omega)⟩
theorem ArgS.pat_at {w : World} {A : Option Addr} {n c : Nat} {xs : List PatternT} (h : ArgS pat w A n c xs) {k : Nat} (hk : k < xs.length) :
  ∃ b o, A = some ⟨b, o, none⟩ ∧ b < w.heap.size ∧ w.cell? ⟨b, o + k * 4, none⟩ = some (.string xs[k].1) ∧ w.cell? ⟨b, o + k * 4 + 1, none⟩ = some (.bool xs[k].2.1) ∧ w.cell? ⟨b, o + k * 4 + 2, none⟩ = some (.string xs[k].2.2.1) ∧ w.cell? ⟨b, o + k * 4 + 3, none⟩ = some (.string xs[k].2.2.2) := by
 obtain ⟨q, fp, h⟩ := h
 obtain ⟨b, o, rfl, hb, h0, h1, h2, h3⟩ := pats_at h hk
 exact ⟨b, o, rfl, hb, h0, h1, h2, h3⟩
def szPatternU (x : PatternT) : Nat := x.1.size + x.2.2.1.size + x.2.2.2.size
def WfPatternU (x : PatternT) : Prop := x.1.size ≤ 9223372036854775807 ∧ True ∧ x.2.2.1.size ≤ 9223372036854775807 ∧ x.2.2.2.size ≤ 9223372036854775807
def mkPatternU (k : Nat) (_x : PatternT) : PatternT := (StrK.mt (k), mb (k + 1), StrK.mt (k + 1 + 1), StrK.mt (k + 1 + 1 + 1))
def nPatternU (_x : PatternT) : Nat := 4
theorem nPatternU_le (x : PatternT) : nPatternU x ≤ 8 * (1 + szPatternU x) := by
 unfold nPatternU szPatternU
 omega
theorem infoPattern : (Tryz.prog.info? 105).map (fun i => (i.zero, i.size, i.bytes)) = some (some (.agg #[.string ByteArray.empty, .bool false, .string ByteArray.empty, .string ByteArray.empty]), 4, 56) := by kernel_rfl
def zeroPattern : El PatternT := ([], [.string ByteArray.empty, .bool false, .string ByteArray.empty, .string ByteArray.empty], (ByteArray.empty, false, ByteArray.empty, ByteArray.empty))
set_option maxHeartbeats 4000000 in
set_option maxRecDepth 100000 in
theorem copyPatternU (z0 : ByteArray) (z1 : Bool) (z2 : ByteArray) (z3 : ByteArray) (w : World)  (_hl : szPatternU (z0, z1, z2, z3) ≤ 100000000) :
  Calls Tryz.prog 191 #[.agg #[.string z0, .bool z1, .string z2, .string z3]] w fun e w' => e = .returned (.agg #[.string z0, .bool z1, .string z2, .string z3]) ∧ OwnR pat w.heap.size w'.heap.size w' [.string z0, .bool z1, .string z2, .string z3] (z0, z1, z2, z3) ∧ Below w.heap.size w w' := by
 go_enter Tryz.func191, Tryz.ntmps191
 go_wp2
 refine bodyPost_ret (v := .agg #[.string z0, .bool z1, .string z2, .string z3]) (by simp [results, Tryz.results191, go_sem]) rfl ⟨rfl, ?_, ?_⟩
 ·exact (OwnR.prod (mid := w.heap.size) (OwnR.str (by first | exact Nat.le_refl _ | omega | (simp; done) | (simp; omega)) z0) (OwnR.prod (mid := w.heap.size) (OwnR.bool (by first | exact Nat.le_refl _ | omega | (simp; done) | (simp; omega)) z1) (OwnR.prod (mid := w.heap.size) (OwnR.str (by first | exact Nat.le_refl _ | omega | (simp; done) | (simp; omega)) z2) (OwnR.str (by first | exact Nat.le_refl _ | omega | (simp; done) | (simp; omega)) z3) (by first | exact Nat.le_refl _ | omega) (by first | exact Nat.le_refl _ | (simp; done) | (simp; omega))) (by first | exact Nat.le_refl _ | omega) (by first | exact Nat.le_refl _ | (simp; done) | (simp; omega))) (by first | exact Nat.le_refl _ | omega) (by first | exact Nat.le_refl _ | (simp; done) | (simp; omega)))
 ·repeat (first | with_reducible exact Below.refl _ _ | refine Below.setCell ?_ (by first | omega | (simp; done) | (simp; omega)) _ | refine Below.alloc ?_ (by first | omega | (simp; done) | (simp; omega)) _)
set_option maxHeartbeats 4000000 in
set_option maxRecDepth 100000 in
theorem sizePatternU (z0 : ByteArray) (z1 : Bool) (z2 : ByteArray) (z3 : ByteArray) (L : Nat) (w : World)  (hL : L ≤ 1000000000) (hs : WfPatternU (z0, z1, z2, z3)) :
  Calls Tryz.prog 187 #[.agg #[.string z0, .bool z1, .string z2, .string z3], .int .i64 L] w fun e w' => e = .returned (.int .i64 (IntK.leftOf L (szPatternU (z0, z1, z2, z3)))) ∧ Below w.heap.size w w' := by
 simp only [WfPatternU] at hs
 obtain ⟨hs0, hs1, hs2, hs3⟩ := hs
 have B0 := Lib.hid ((Below.refl w.heap.size w).alloc (Nat.le_refl _) (Obj.cells #[Value.string z0, Value.bool z1, Value.string z2, Value.string z3] 208))
 have V0 := Lib.hid (Lvar.new w #[Value.string z0, Value.bool z1, Value.string z2, Value.string z3] 208)
 by_cases g0 : z0.size ≤ L
 ·obtain ⟨m0, hm0⟩ : ∃ m : Nat, m = L - z0.size := ⟨_, rfl⟩
  have hq0 : (L : Int) - (z0.size : Int) = (m0 : Int) := by omega
  have hd0 : decide ((m0 : Int) < 0) = false := decide_eq_false (by omega)
  have HM0 := Lib.hid (show m0 + z0.size = L by omega)
  have hL0 : m0 ≤ 1000000000 := by omega
  clear g0 hm0
  by_cases g1 : z2.size ≤ m0
  ·obtain ⟨m1, hm1⟩ : ∃ m : Nat, m = m0 - z2.size := ⟨_, rfl⟩
   have hq1 : (m0 : Int) - (z2.size : Int) = (m1 : Int) := by omega
   have hd1 : decide ((m1 : Int) < 0) = false := decide_eq_false (by omega)
   have HM1 := Lib.hid (show m1 + z2.size = m0 by omega)
   have hL1 : m1 ≤ 1000000000 := by omega
   clear g1 hm1
   by_cases g2 : z3.size ≤ m1
   ·obtain ⟨m2, hm2⟩ : ∃ m : Nat, m = m1 - z3.size := ⟨_, rfl⟩
    have hq2 : (m1 : Int) - (z3.size : Int) = (m2 : Int) := by omega
    have hd2 : decide ((m2 : Int) < 0) = false := decide_eq_false (by omega)
    have HM2 := Lib.hid (show m2 + z3.size = m1 by omega)
    have hL2 : m2 ≤ 1000000000 := by omega
    clear g2 hm2
    have HR := Lib.hid (show IntK.leftOf L (szPatternU (z0, z1, z2, z3)) = (m2 : Int) by simp only [szPatternU]; unfold IntK.leftOf; have := HM0.out; have := HM1.out; have := HM2.out; rw [if_pos (by omega)]; omega)
    clear hs1
    go_enter Tryz.func187, Tryz.ntmps187
    go_wp2
    go_ret
    exact ⟨by rw [HR.out]; rfl, B0.out⟩
   ·have HM := Lib.hid g2
    have hd2 : decide ((m1 : Int) - (z3.size : Int) < 0) = true := decide_eq_true (by omega)
    clear g2
    have HR := Lib.hid (show IntK.leftOf L (szPatternU (z0, z1, z2, z3)) = -1 by simp only [szPatternU]; unfold IntK.leftOf; have := HM0.out; have := HM1.out; have := HM.out; rw [if_neg (by omega)])
    clear hs1
    go_enter Tryz.func187, Tryz.ntmps187
    go_wp2
    go_ret
    exact ⟨by rw [HR.out]; rfl, B0.out⟩
  ·have HM := Lib.hid g1
   have hd1 : decide ((m0 : Int) - (z2.size : Int) < 0) = true := decide_eq_true (by omega)
   clear g1
   have HR := Lib.hid (show IntK.leftOf L (szPatternU (z0, z1, z2, z3)) = -1 by simp only [szPatternU]; unfold IntK.leftOf; have := HM0.out; have := HM.out; rw [if_neg (by omega)])
   clear hs1
   go_enter Tryz.func187, Tryz.ntmps187
   go_wp2
   go_ret
   exact ⟨by rw [HR.out]; rfl, B0.out⟩
 ·have HM := Lib.hid g0
  have hd0 : decide ((L : Int) - (z0.size : Int) < 0) = true := decide_eq_true (by omega)
  clear g0
  have HR := Lib.hid (show IntK.leftOf L (szPatternU (z0, z1, z2, z3)) = -1 by simp only [szPatternU]; unfold IntK.leftOf; have := HM.out; rw [if_neg (by omega)])
  clear hs1
  go_enter Tryz.func187, Tryz.ntmps187
  go_wp2
  go_ret
  exact ⟨by rw [HR.out]; rfl, B0.out⟩
set_option maxHeartbeats 4000000 in
set_option maxRecDepth 100000 in
theorem eqPatternU (z0 : ByteArray) (z1 : Bool) (z2 : ByteArray) (z3 : ByteArray)  (w : World)   (_hl : szPatternU (z0, z1, z2, z3) ≤ 100000000) :
  Calls Tryz.prog 195 #[.agg #[.string z0, .bool z1, .string z2, .string z3], .agg #[.string z0, .bool z1, .string z2, .string z3]] w fun e w' => e = .returned (.bool true) ∧ Below w.heap.size w w' := by
 have BB0 := Lib.hid (((Below.refl w.heap.size w).alloc (Nat.le_refl _) (Obj.cells #[Value.string z0, Value.bool z1, Value.string z2, Value.string z3] 105)).alloc (by simp) (Obj.cells #[Value.string z0, Value.bool z1, Value.string z2, Value.string z3] 105))
 go_enter Tryz.func195, Tryz.ntmps195
 go_wp2
 go_ret
 exact ⟨rfl, BB0.out⟩
theorem run_mkPatternU (n : Nat) (hn : n ≤ 100000000000) (u : World) : (Instr.makeSlice 42 (.int .i64 (n : Int)) (.int .i64 (n : Int))).run Tryz.prog u =
  .ok (.slice (some ⟨u.heap.size, 0, none⟩) n n) (u.alloc (.cells (madeCells #[.string ByteArray.empty, .bool false, .string ByteArray.empty, .string ByteArray.empty] (n * 4)) 105)) := by
 obtain ⟨i0, hi, hz0, hz1, hz2⟩ := info_parts infoPattern
 have h := run_make (P := Tryz.prog) u 42 105 i0 (.agg #[.string ByteArray.empty, .bool false, .string ByteArray.empty, .string ByteArray.empty]) Tryz.underlying42 hi hz0 .i64 .i64 (n : Int) (n : Int) (by omega) (Int.le_refl _) (by rw [hz2]; omega) (by omega)
 simpa [hz1, Value.cells] using h
set_option maxHeartbeats 4000000 in
set_option maxRecDepth 100000 in
theorem copyPatternSU (q : Bool) (fp : List Nat) (A : Option Addr) (c : Nat) (xs : List PatternT) (w : World) (hA : (Rep.slice pat).rep q w fp [.slice A xs.length c] xs) (hl : xs.length + szs szPatternU xs ≤ 100000000) :
  Calls Tryz.prog 149 #[.slice A xs.length c] w (CopiedU pat w xs) := by
 have hxl : xs.length ≤ 100000000 := by omega
 have hmk := run_mkPatternU xs.length (by omega)
 have HZ := Lib.hid (Filling.made (r := pat) (e := 105) (z := zeroPattern) (ok := fun b => w.heap.size ≤ b) w (madeCells #[.string ByteArray.empty, .bool false, .string ByteArray.empty, .string ByteArray.empty] (xs.length * 4)) (made_gen [.string ByteArray.empty, .bool false, .string ByteArray.empty, .string ByteArray.empty] ((ByteArray.empty, false, ByteArray.empty, ByteArray.empty) : PatternT) (by simp) xs.length) (Nat.le_refl _))
 have HB0 := Lib.hid ((Below.refl w.heap.size w).alloc (Nat.le_refl _) (Obj.cells (madeCells #[.string ByteArray.empty, .bool false, .string ByteArray.empty, .string ByteArray.empty] (xs.length * 4)) 105))
 have HL := Lib.hid hl
 have HA := Lib.hid hA
 clear hl hA
 go_enter Tryz.func149, Tryz.ntmps149
 go_wp2
 go_loopw [4] (fun i wr => ∃ k : Nat, k ≤ xs.length ∧ i = .int .i64 k ∧ Filling pat 105 zeroPattern (fun b => w.heap.size ≤ b) wr w.heap.size xs.length (xs.take k) ∧ Below w.heap.size w wr) (fun i _ => xs.length - (intOf i).toNat)
 case atStart => exact ⟨0, Nat.zero_le _, rfl, HZ.out, HB0.out⟩
 case round =>
  obtain ⟨k, hk, rfl, hS, hb⟩ := hrel
  have HS := Lib.hid hS
  have HB := Lib.hid hb
  clear hS hb
  by_cases hlt : k < xs.length
  ·obtain ⟨b, o, rfl, hbb, g0, g1, g2, g3⟩ := pats_at (Rep.below HA.out HB.out) hlt
   have htl : (xs.take k).length = k := by rw [List.length_take]; omega
   have hk' : (xs.take k).length < xs.length := by rw [htl]; exact hlt
   obtain ⟨p0, y0⟩ := HS.out.cell (j := 0) (u := .string ByteArray.empty) rfl hk' (by decide) rfl
   have p0 : wr.cell? ⟨w.heap.size, (xs.take k).length * 4, none⟩ = some (.string ByteArray.empty) := p0
   have y0 : wr.frozen? ⟨w.heap.size, (xs.take k).length * 4, none⟩ = false := y0
   obtain ⟨p1, y1⟩ := HS.out.cell (j := 1) (u := .bool false) rfl hk' (by decide) rfl
   have p1 : wr.cell? ⟨w.heap.size, (xs.take k).length * 4 + 1, none⟩ = some (.bool false) := p1
   have y1 : wr.frozen? ⟨w.heap.size, (xs.take k).length * 4 + 1, none⟩ = false := y1
   obtain ⟨p2, y2⟩ := HS.out.cell (j := 2) (u := .string ByteArray.empty) rfl hk' (by decide) rfl
   have p2 : wr.cell? ⟨w.heap.size, (xs.take k).length * 4 + 2, none⟩ = some (.string ByteArray.empty) := p2
   have y2 : wr.frozen? ⟨w.heap.size, (xs.take k).length * 4 + 2, none⟩ = false := y2
   obtain ⟨p3, y3⟩ := HS.out.cell (j := 3) (u := .string ByteArray.empty) rfl hk' (by decide) rfl
   have p3 : wr.cell? ⟨w.heap.size, (xs.take k).length * 4 + 3, none⟩ = some (.string ByteArray.empty) := p3
   have y3 : wr.frozen? ⟨w.heap.size, (xs.take k).length * 4 + 3, none⟩ = false := y3
   rw [htl] at p0 y0 p1 y1 p2 y2 p3 y3
   have hz := HS.out.lt
   have HT := Lib.hid (take_snoc hlt)
   have HTL := Lib.hid htl
   have hs9 : szPatternU xs[k] ≤ 100000000 := by
    have := HL.out
    have := szs_mem (sz := szPatternU) (List.getElem_mem hlt)
    omega
   clear htl hk'
   generalize xs[k] = x at *
   obtain ⟨z0, z1, z2, z3⟩ := x
   simp only at g0 g1 g2 g3
   have CP := Lib.hid (copyPatternU z0 z1 z2 z3 wr  hs9)
   have hi0 : (0 : Int) ≤ (k : Int) := by omega
   have hi1 : (k : Int) < (xs.length : Int) := by omega
   go_wp2_with fail
   refine (Calls.mono CP.out) ?_
   rintro e w1 ⟨rfl, ⟨_, fG, k1, k2, k3⟩, b1⟩
   have HW := Lib.hid b1
   have hS2 := Filling.snoc (m := wr.heap.size) HS.out rfl (by rw [HTL.out]; exact hlt) b1 (Nat.le_refl _) k1 k2 (fun b hb => (k3 b hb).1) (fun b hb => Nat.le_trans HB.out.size hb)
   rw [HTL.out, ← HT.out] at hS2
   have HS2 := Lib.hid (show Filling pat 105 zeroPattern (fun b => w.heap.size ≤ b) ((((w1.setCell ⟨w.heap.size, k * 4, none⟩ (.string z0)).setCell ⟨w.heap.size, k * 4 + 1, none⟩ (.bool z1)).setCell ⟨w.heap.size, k * 4 + 2, none⟩ (.string z2)).setCell ⟨w.heap.size, k * 4 + 3, none⟩ (.string z3)) w.heap.size xs.length (xs.take (k + 1)) from hS2)
   have HB2 := Lib.hid (((((HB.out.trans (b1.mono HB.out.size)).setCell (p := ⟨w.heap.size, k * 4, none⟩) (Nat.le_refl _) (.string z0)).setCell (p := ⟨w.heap.size, k * 4 + 1, none⟩) (Nat.le_refl _) (.bool z1)).setCell (p := ⟨w.heap.size, k * 4 + 2, none⟩) (Nat.le_refl _) (.string z2)).setCell (p := ⟨w.heap.size, k * 4 + 3, none⟩) (Nat.le_refl _) (.string z3))
   have p0' := (b1.cell (p := ⟨w.heap.size, k * 4, none⟩) hz).trans p0
   have y0' := (b1.frozen (p := ⟨w.heap.size, k * 4, none⟩) hz).trans y0
   have p1' := (b1.cell (p := ⟨w.heap.size, k * 4 + 1, none⟩) hz).trans p1
   have y1' := (b1.frozen (p := ⟨w.heap.size, k * 4 + 1, none⟩) hz).trans y1
   have p2' := (b1.cell (p := ⟨w.heap.size, k * 4 + 2, none⟩) hz).trans p2
   have y2' := (b1.frozen (p := ⟨w.heap.size, k * 4 + 2, none⟩) hz).trans y2
   have p3' := (b1.cell (p := ⟨w.heap.size, k * 4 + 3, none⟩) hz).trans p3
   have y3' := (b1.frozen (p := ⟨w.heap.size, k * 4 + 3, none⟩) hz).trans y3
   clear hS2 b1 k1 k2 k3 p0 y0 g0 p1 y1 g1 p2 y2 g2 p3 y3 g3
   go_wp2
   go_roundw
   case rel => exact ⟨k + 1, by omega, by go_num, HS2.out, HB2.out⟩
   case measure => simp [intOf]; omega
  ·obtain rfl : k = xs.length := by omega
   have hS := HS.out
   rw [List.take_length] at hS
   obtain ⟨A2, c2, fp2, h1, h2, h3, h4⟩ := (hS.done (by unfold maxLen; have := HL.out; omega)).rep (by decide)
   injection h1 with h1 _ h5
   subst h1; subst h5
   have HN := Lib.hid (show New (Rep.slice pat) w xs wr [.slice (some ⟨w.heap.size, 0, none⟩) xs.length xs.length] from ⟨fp2, h2, h3, h4⟩)
   clear hS HS h2 h3 h4
   go_wp2
   go_ret
   exact ⟨_, rfl, OwnR.of_new HN.out, HB.out⟩

def SzPatternU (w : World) (xs : List PatternT) (m : Nat) (x i : Value) (wr : World) : Prop :=
 ∃ k l : Nat, k ≤ xs.length ∧ i = .int .i64 k ∧ x = .int .i64 l ∧ l + szs szPatternU (xs.take k) + xs.length = m ∧ Below w.heap.size w wr
set_option maxHeartbeats 4000000 in
set_option maxRecDepth 100000 in
theorem sizePatternSU (q : Bool) (fp : List Nat) (A : Option Addr) (c L : Nat) (xs : List PatternT) (w : World) (hA : (Rep.slice pat).rep q w fp [.slice A xs.length c] xs) (hL : L ≤ 1000000000) (hl : xs.length ≤ 9223372036854775807) (hs : ∀ x ∈ xs, WfPatternU x) :
  Calls Tryz.prog 144 #[.slice A xs.length c, .int .i64 L] w fun e w' => e = .returned (.int .i64 (IntK.leftOf L (xs.length + szs szPatternU xs))) ∧ Below w.heap.size w w' := by
 have HS := Lib.hid hs
 by_cases h0 : xs.length ≤ L
 ·have hlt0 : decide ((L : Int) - (xs.length : Int) < 0) = false := decide_eq_false (by omega)
  have hx9 : xs.length ≤ 1000000000 := by omega
  clear hs
  go_enter Tryz.func144, Tryz.ntmps144
  go_wp2
  go_loopw [1, 5] (fun x i wr => SzPatternU w xs L x i wr) (fun _ i _ => xs.length - (intOf i).toNat)
  case atStart => exact ⟨0, L - xs.length, Nat.zero_le _, rfl, congrArg (Value.int .i64) (by omega), by simp [szs]; omega, Below.refl _ _⟩
  case round =>
   obtain ⟨k, l, hk, rfl, rfl, hsum, hb⟩ := hrel
   by_cases hlt : k < xs.length
   ·obtain ⟨b, o, rfl, hbb, g0, g1, g2, g3⟩ := pats_at (Rep.below hA hb) hlt
    have hxs := HS.out _ (List.getElem_mem hlt)
    have hts := szs_step (sz := szPatternU) hlt
    have hle := szs_take (sz := szPatternU) xs (k + 1)
    generalize xs[k] = x at *
    obtain ⟨z0, z1, z2, z3⟩ := x
    simp only at g0 g1 g2 g3
    obtain ⟨s0, hs0⟩ : ∃ s0 : Nat, s0 = szPatternU (z0, z1, z2, z3) := ⟨_, rfl⟩
    have SZ := Lib.hid (sizePatternU z0 z1 z2 z3 l wr  (by omega) hxs)
    rw [← hs0] at SZ hts
    have HT := Lib.hid hts
    have HE := Lib.hid hle
    have HM := Lib.hid hsum
    unfold IntK.leftOf at SZ
    clear hts hle hsum hxs hs0
    by_cases hc : s0 ≤ l
    ·rw [if_pos hc] at SZ
     obtain ⟨l', rfl⟩ : ∃ l', l = s0 + l' := ⟨l - s0, by omega⟩
     rw [show ((s0 + l' : Nat) : Int) - ((s0 : Nat) : Int) = (l' : Int) by omega] at SZ
     have hl0 : decide ((l' : Int) < 0) = false := decide_eq_false (by omega)
     clear hc
     go_wp2_with fail
     refine (Calls.mono SZ.out) ?_
     rintro e w1 ⟨rfl, b1⟩
     have B1 := Lib.hid (hb.trans (b1.mono hb.size))
     clear b1
     go_wp2
     go_roundw
     case rel => exact ⟨k + 1, l', by omega, by go_num, rfl, by have := HM.out; have := HT.out; omega, B1.out⟩
     case measure => simp [intOf]; omega
    ·rw [if_neg hc] at SZ
     have HR := Lib.hid (show IntK.leftOf L (xs.length + szs szPatternU xs) = -1 from if_neg (by have := HM.out; have := HT.out; have := HE.out; omega))
     clear hc
     go_wp2_with fail
     refine (Calls.mono SZ.out) ?_
     rintro e w1 ⟨rfl, b1⟩
     have B1 := Lib.hid (hb.trans (b1.mono hb.size))
     clear b1
     go_wp2
     go_ret
     exact ⟨by rw [HR.out]; rfl, B1.out⟩
   ·obtain rfl : k = xs.length := by omega
    rw [List.take_length] at hsum
    have HR := Lib.hid (show IntK.leftOf L (xs.length + szs szPatternU xs) = (l : Int) by
     unfold IntK.leftOf
     rw [if_pos (by omega)]
     omega)
    clear hsum
    go_wp2
    go_ret
    exact ⟨by rw [HR.out]; rfl, hb⟩
 ·have HR := Lib.hid (show IntK.leftOf L (xs.length + szs szPatternU xs) = -1 from if_neg (by omega))
  have hlt0 : decide ((L : Int) - (xs.length : Int) < 0) = true := decide_eq_true (by omega)
  clear hs
  go_enter Tryz.func144, Tryz.ntmps144
  go_wp2
  go_ret
  exact ⟨by rw [HR.out]; rfl, Below.refl _ _⟩

set_option maxHeartbeats 4000000 in
set_option maxRecDepth 100000 in
theorem eqPatternSU (q q2 : Bool) (fp gp : List Nat) (A B : Option Addr) (c d : Nat) (xs : List PatternT) (w : World) (hA : (Rep.slice pat).rep q w fp [.slice A xs.length c] xs) (hB : (Rep.slice pat).rep q2 w gp [.slice B xs.length d] xs) (hl : xs.length + szs szPatternU xs ≤ 100000000) :
  Calls Tryz.prog 154 #[.slice A xs.length c, .slice B xs.length d] w fun e w' => e = .returned (.bool true) ∧ Below w.heap.size w w' := by
 have HL := Lib.hid hl
 clear hl
 have hxl : xs.length ≤ 1000000000 := by have := HL.out; omega
 go_enter Tryz.func154, Tryz.ntmps154
 go_wp2
 go_loopw [5] (fun i wr => ∃ k : Nat, k ≤ xs.length ∧ i = .int .i64 k ∧ Below w.heap.size w wr) (fun i _ => xs.length - (intOf i).toNat)
 case atStart => exact ⟨0, Nat.zero_le _, rfl, Below.refl _ _⟩
 case round =>
  obtain ⟨k, hk, rfl, hb⟩ := hrel
  by_cases hlt : k < xs.length
  ·obtain ⟨b, o, rfl, hbb, g0, g1, g2, g3⟩ := pats_at (Rep.below hA hb) hlt
   obtain ⟨b', o', rfl, hbb', g0', g1', g2', g3'⟩ := pats_at (Rep.below hB hb) hlt
   have hs9 : szPatternU xs[k] ≤ 100000000 := by
    have := HL.out
    have := szs_mem (sz := szPatternU) (List.getElem_mem hlt)
    omega
   generalize xs[k] = x at *
   obtain ⟨z0, z1, z2, z3⟩ := x
   simp only at g0 g0' g1 g1' g2 g2' g3 g3'
   have hd : Below wr.heap.size wr wr.drew := (Below.refl _ _).drew
   have EQ := Lib.hid (eqPatternU z0 z1 z2 z3  wr.drew   hs9)
   have hi0 : (0 : Int) ≤ (k : Int) := by omega
   have hi1 : (k : Int) < (xs.length : Int) := by omega
   clear hd
   go_wp2_with fail
   go_region_law (first
    | (go_simp; go_at_call 195; refine (Calls.mono EQ.out) ?_; rintro e w1 ⟨rfl, b1⟩))
   all_goals
    have B1' := Lib.hid (hb.trans (((Below.refl wr.heap.size wr).drew.trans b1).mono hb.size))
    clear b1
    go_wp2
    go_roundw
    case rel => exact ⟨k + 1, by omega, by go_num, B1'.out⟩
    case measure => simp [intOf]; omega
  ·go_wp2
   go_ret
   exact ⟨rfl, hb⟩

set_option maxHeartbeats 4000000 in
set_option maxRecDepth 100000 in
theorem markPatternSU (fp : List Nat) (A : Option Addr) (c k0 : Nat) (xs : List PatternT) (w : World) (hA : (Rep.slice pat).rep true w fp [.slice A xs.length c] xs) (hn : fp.Nodup) (h1 : 1 ≤ k0) (hk0 : k0 + 8 * (xs.length + szs szPatternU xs) ≤ 1000000000) :
  Calls Tryz.prog 112 #[.slice A xs.length c, .int .i64 k0] w (MarkedU pat mkPatternU nPatternU fp w A c k0 xs) := by
 by_cases h0 : xs = []
 ·subst h0
  have F := Lib.hid (show MarkedU pat mkPatternU nPatternU fp w A c k0 [] (.returned (.int .i64 k0)) w from ⟨by simp [szs], hA, ModF.refl _ _⟩)
  clear hA
  go_enter Tryz.func112, Tryz.ntmps112
  go_wp2
  refine wp_loop_rounds 1 ?_
  rw [rounds_succ]
  go_wp2
  go_ret
  exact F.out
 ·have HK := Lib.hid hk0
  have hxl : xs.length ≤ 1000000000 := by omega
  have HK1 := Lib.hid h1
  have HNE := Lib.hid h0
  have HC := Lib.hid (show xs.length ≤ c by
   obtain ⟨_, _, e, h, _⟩ := hA
   injection e with e _
   injection e with _ _ e
   omega)
  have M0 := Lib.hid (marking_zero (mk := mkPatternU) (sz := nPatternU) k0 hA hn h0)
  clear hA hk0 h0 hn h1
  go_enter Tryz.func112, Tryz.ntmps112
  go_wp2
  go_loopw [1, 5] (fun x i wr => Marking pat mkPatternU nPatternU fp w xs A k0 x i wr) (fun _ i _ => xs.length - (intOf i).toNat)
  case atStart => exact M0.out
  case round =>
   obtain ⟨k, l, rfl, rfl, hk, hl0⟩ : ∃ k l : Nat, u5 = .int .i64 k ∧ u1 = .int .i64 l ∧ k ≤ xs.length ∧ l = k0 + szs nPatternU (xs.take k) := by
    obtain ⟨k, l, _, _, _, _, h1, h2, h3, h4, _⟩ := hrel
    exact ⟨k, l, h2, h3, h1, h4⟩
   by_cases hlt : k < xs.length
   ·obtain ⟨b, o, f, cs, rfl, hbb, hre, hnd, hbf, hcc, hff, hnext⟩ := marking_at hrel hlt
    have hl9 : 1 ≤ l ∧ l + 8 * (1 + szPatternU xs[k]) ≤ 1000000000 := by
     have h2 := szs_bound nPatternU_le (xs.take k)
     have h3 := szs_step (sz := szPatternU) hlt
     have h4 := szs_take (sz := szPatternU) xs (k + 1)
     have h5 : (xs.take k).length = k := by rw [List.length_take]; omega
     have := HK.out
     have := HK1.out
     omega
    clear hl0
    have HNX := Lib.hid hnext
    have HBF := Lib.hid hbf
    obtain ⟨e9, rfl⟩ := pat_open hre
    have e9 := e9.symm
    subst e9
    have g0 := hcc 0 (by decide)
    have g1 := hcc 1 (by decide)
    have g2 := hcc 2 (by decide)
    have g3 := hcc 3 (by decide)
    simp only [show pat.n = 4 from rfl, Nat.add_zero, List.getElem?_cons_zero, List.getElem?_cons_succ] at g0 g1 g2 g3
    have hff : ∀ i, i < 4 → wr.frozen? ⟨b, o + k * 4 + i, none⟩ = false := hff
    have HFF := Lib.hid hff
    clear hnext hcc hff hre hrel
    generalize xs[k] = x at *
    obtain ⟨z0, z1, z2, z3⟩ := x
    simp only [szPatternU] at hl9
    obtain ⟨hl1, hl9⟩ := hl9
    simp only at g0 g1 g2 g3
    have E0 := Lib.hid (Elem.start (fp := []) (wr := wr) (b := b) (p := o + k * 4) (cs := [.string z0, .bool z1, .string z2, .string z3]) hbb (fun i v hi => by
     match i, hi with
     | 0, hi => injection hi with hi; subst hi; exact g0
     | 1, hi => injection hi with hi; subst hi; exact g1
     | 2, hi => injection hi with hi; subst hi; exact g2
     | 3, hi => injection hi with hi; subst hi; exact g3
     | j + 4, hi => simp at hi))
    clear  hbb g0 g1 g2 g3
    have MT0 := fun W => StrK.markText (l) (by omega) (by omega) W
    have MT0 := Lib.hid MT0
    have hmb1 : decide (Int.tmod ((l : Int) + 1) 3 = 0) = mb (l + 1) := by rw [mb_eq, show ((l + 1 : Nat) : Int) = (l : Int) + 1 by omega]
    have MT2 := fun W => StrK.markText (l + 1 + 1) (by omega) (by omega) W
    rw [show ((l + 1 + 1 : Nat) : Int) = (l : Int) + 1 + 1 by omega] at MT2
    have MT2 := Lib.hid MT2
    have MT3 := fun W => StrK.markText (l + 1 + 1 + 1) (by omega) (by omega) W
    rw [show ((l + 1 + 1 + 1 : Nat) : Int) = (l : Int) + 1 + 1 + 1 by omega] at MT3
    have MT3 := Lib.hid MT3
    have HNAT := Lib.hid (show ((l + 1 + 1 + 1 + 1 : Nat) : Int) = (l : Int) + 1 + 1 + 1 + 1 by omega)
    have hr : l ≤ 1000000000 := by omega
    clear hl1 hl9 
    have lt_0 := E0.out.lt
    have g0_0 := E0.out.cell 0 _ rfl
    have y0_0 := E0.out.free HFF.out (i := 0) (by simp)
    have g1_0 := E0.out.cell 1 _ rfl
    have y1_0 := E0.out.free HFF.out (i := 1) (by simp)
    have g2_0 := E0.out.cell 2 _ rfl
    have y2_0 := E0.out.free HFF.out (i := 2) (by simp)
    have g3_0 := E0.out.cell 3 _ rfl
    have y3_0 := E0.out.free HFF.out (i := 3) (by simp)
    simp only [Nat.add_zero] at g0_0 y0_0
    go_wp2_with fail
    refine (Calls.mono (MT0.out _)) ?_
    rintro e w1 ⟨rfl, d1⟩
    have E1 := Lib.hid (E0.out.below d1)
    clear d1 E0 
    clear lt_0 g0_0 y0_0 g1_0 y1_0 g2_0 y2_0 g3_0 y3_0
    have lt_1 := E1.out.lt
    have g0_1 := E1.out.cell 0 _ rfl
    have y0_1 := E1.out.free HFF.out (i := 0) (by simp)
    have g1_1 := E1.out.cell 1 _ rfl
    have y1_1 := E1.out.free HFF.out (i := 1) (by simp)
    have g2_1 := E1.out.cell 2 _ rfl
    have y2_1 := E1.out.free HFF.out (i := 2) (by simp)
    have g3_1 := E1.out.cell 3 _ rfl
    have y3_1 := E1.out.free HFF.out (i := 3) (by simp)
    simp only [Nat.add_zero] at g0_1 y0_1
    have E2 := Lib.hid (show Elem b (o + k * 4) ([]) wr (w1.setCell ⟨b, o + k * 4, none⟩ (.string (StrK.mt (l)))) [.string (StrK.mt (l)), .bool z1, .string z2, .string z3] from E1.out.set (i := 0) (by simp) (.string (StrK.mt (l))))
    clear E1 
    have E3 := Lib.hid (show Elem b (o + k * 4) ([]) wr ((w1.setCell ⟨b, o + k * 4, none⟩ (.string (StrK.mt (l)))).setCell ⟨b, o + k * 4 + 1, none⟩ (.bool (mb (l + 1)))) [.string (StrK.mt (l)), .bool (mb (l + 1)), .string z2, .string z3] from E2.out.set (i := 1) (by simp) (.bool (mb (l + 1))))
    clear E2 
    go_wp2_with fail
    refine (Calls.mono (MT2.out _)) ?_
    rintro e w3 ⟨rfl, d3⟩
    have E4 := Lib.hid (E3.out.below d3)
    clear d3 E3 
    clear lt_1 g0_1 y0_1 g1_1 y1_1 g2_1 y2_1 g3_1 y3_1
    have lt_4 := E4.out.lt
    have g0_4 := E4.out.cell 0 _ rfl
    have y0_4 := E4.out.free HFF.out (i := 0) (by simp)
    have g1_4 := E4.out.cell 1 _ rfl
    have y1_4 := E4.out.free HFF.out (i := 1) (by simp)
    have g2_4 := E4.out.cell 2 _ rfl
    have y2_4 := E4.out.free HFF.out (i := 2) (by simp)
    have g3_4 := E4.out.cell 3 _ rfl
    have y3_4 := E4.out.free HFF.out (i := 3) (by simp)
    simp only [Nat.add_zero] at g0_4 y0_4
    have E5 := Lib.hid (show Elem b (o + k * 4) ([]) wr (w3.setCell ⟨b, o + k * 4 + 2, none⟩ (.string (StrK.mt (l + 1 + 1)))) [.string (StrK.mt (l)), .bool (mb (l + 1)), .string (StrK.mt (l + 1 + 1)), .string z3] from E4.out.set (i := 2) (by simp) (.string (StrK.mt (l + 1 + 1))))
    clear E4 
    go_wp2_with fail
    refine (Calls.mono (MT3.out _)) ?_
    rintro e w4 ⟨rfl, d4⟩
    have E6 := Lib.hid (E5.out.below d4)
    clear d4 E5 
    clear lt_4 g0_4 y0_4 g1_4 y1_4 g2_4 y2_4 g3_4 y3_4
    have lt_6 := E6.out.lt
    have g0_6 := E6.out.cell 0 _ rfl
    have y0_6 := E6.out.free HFF.out (i := 0) (by simp)
    have g1_6 := E6.out.cell 1 _ rfl
    have y1_6 := E6.out.free HFF.out (i := 1) (by simp)
    have g2_6 := E6.out.cell 2 _ rfl
    have y2_6 := E6.out.free HFF.out (i := 2) (by simp)
    have g3_6 := E6.out.cell 3 _ rfl
    have y3_6 := E6.out.free HFF.out (i := 3) (by simp)
    simp only [Nat.add_zero] at g0_6 y0_6
    have E7 := Lib.hid (show Elem b (o + k * 4) ([]) wr (w4.setCell ⟨b, o + k * 4 + 3, none⟩ (.string (StrK.mt (l + 1 + 1 + 1)))) [.string (StrK.mt (l)), .bool (mb (l + 1)), .string (StrK.mt (l + 1 + 1)), .string (StrK.mt (l + 1 + 1 + 1))] from E6.out.set (i := 3) (by simp) (.string (StrK.mt (l + 1 + 1 + 1))))
    clear E6 
    have HN : Marking pat mkPatternU nPatternU fp w xs (some ⟨b, o, none⟩) k0 (.int .i64 ((l : Int) + 1 + 1 + 1 + 1)) (.int .i64 ((k : Int) + 1)) (w4.setCell ⟨b, o + k * 4 + 3, none⟩ (.string (StrK.mt (l + 1 + 1 + 1)))) := by
     have hE := E7.out
     have hnat := HNAT.out
     have hN := HNX.out (w4.setCell ⟨b, o + k * 4 + 3, none⟩ (.string (StrK.mt (l + 1 + 1 + 1)))) [.string (StrK.mt (l)), .bool (mb (l + 1)), .string (StrK.mt (l + 1 + 1)), .string (StrK.mt (l + 1 + 1 + 1))] (by
      simp only [mkPatternU]
      have hh := pat_close (q := true) (w := (w4.setCell ⟨b, o + k * 4 + 3, none⟩ (.string (StrK.mt (l + 1 + 1 + 1))))) (StrK.mt (l)) (mb (l + 1)) (StrK.mt (l + 1 + 1)) (StrK.mt (l + 1 + 1 + 1)) 
      exact hh) hE.modF (fun j hj => hE.other (o + j) (by have hj : j < k * 4 ∨ k * 4 + 4 ≤ j := hj; simp only [List.length_cons, List.length_nil]; omega)) (fun i hi => by
      have hi : i < 4 := hi
      match i, hi with
      | 0, _ => exact hE.cell 0 _ rfl
      | 1, _ => exact hE.cell 1 _ rfl
      | 2, _ => exact hE.cell 2 _ rfl
      | 3, _ => exact hE.cell 3 _ rfl
      | j + 4, hi => omega) (fun j => hE.frozen (o + j))
     rw [show ((l + nPatternU (z0, z1, z2, z3) : Nat) : Int) = (l : Int) + 1 + 1 + 1 + 1 by simp only [nPatternU]; omega, show ((k + 1 : Nat) : Int) = (k : Int) + 1 by omega] at hN
     exact hN
    have HN := Lib.hid HN
    clear E7  HNX
    go_wp2
    go_roundw
    case rel => exact HN.out
    case measure => simp [intOf]; omega
   ·obtain rfl : k = xs.length := by omega
    obtain ⟨h1, h2, h3⟩ := marking_end HC.out HNE.out hrel
    have F := Lib.hid (show MarkedU pat mkPatternU nPatternU fp w A c k0 xs (.returned (.int .i64 l)) wr from ⟨by rw [h3]; simp, h1, h2⟩)
    clear h1 h2 h3 hrel
    go_wp2
    go_ret
    exact F.out
end Mem
end Go.Proofs.YtbbllkhmenpnlaaGreat

/-
  The laws' helpers on Arg: copies, sizes, comparison, marks (made by tools/ukit.py).
-/
namespace Go.Proofs.YtbbllkhmenpnlaaGreat
open Go.RowKit
namespace Mem
open RowK

abbrev ArgT := Bool × List SumT × ByteArray
def arg : Rep ArgT := Rep.prod Rep.bool (Rep.prod (Rep.slice sum) Rep.str)
theorem arg_open {q : Bool} {w : World} {fp : List Nat} {cs : List Value} {p : ArgT} (h : arg.rep q w fp cs p) : ∃ (A1 : Option Addr) (c1 : Nat) (f1 : List Nat), fp = f1 ∧ cs = [.bool p.1, .slice A1 p.2.1.length c1, .string p.2.2] ∧ (Rep.slice sum).rep q w f1 [.slice A1 p.2.1.length c1] p.2.1 := by
 obtain ⟨g0, g0', d0, d0', rfl, rfl, k0, h'⟩ := h
 obtain ⟨rfl, rfl⟩ := k0
 obtain ⟨g1, g1', d1, d1', rfl, rfl, k1, h''⟩ := h'
 have r1 := k1
 obtain ⟨A1, c1, rfl, _⟩ := k1
 obtain ⟨rfl, rfl⟩ := h''
 exact ⟨A1, c1, _, by simp, rfl, r1⟩
theorem arg_close {q : Bool} {w : World} {A1 : Option Addr} {c1 : Nat} {f1 : List Nat} {x1 : List SumT} (z0 : Bool) (z2 : ByteArray) (h1 : (Rep.slice sum).rep q w f1 [.slice A1 x1.length c1] x1) : arg.rep q w (f1) [.bool z0, .slice A1 x1.length c1, .string z2] (z0, x1, z2) := by
 have e : (f1 : List Nat) = [] ++ (f1 ++ ([])) := by simp
 rw [e]
 exact (show arg.rep q w ([] ++ (f1 ++ ([]))) ([.bool z0] ++ ([.slice A1 x1.length c1] ++ ([.string z2]))) _ from ⟨_, _, _, _, rfl, rfl, ⟨rfl, rfl⟩, ⟨_, _, _, _, rfl, rfl, h1, ⟨rfl, rfl⟩⟩⟩)
theorem args_at {q : Bool} {w : World} {fp : List Nat} {A : Option Addr} {n c : Nat} {xs : List ArgT} (h : (Rep.slice arg).rep q w fp [.slice A n c] xs) {k : Nat} (hk : k < xs.length) :
  ∃ b o A1 c1 f1, A = some ⟨b, o, none⟩ ∧ b < w.heap.size ∧ w.cell? ⟨b, o + k * 3, none⟩ = some (.bool xs[k].1) ∧ w.cell? ⟨b, o + k * 3 + 1, none⟩ = some (.slice A1 xs[k].2.1.length c1) ∧ w.cell? ⟨b, o + k * 3 + 2, none⟩ = some (.string xs[k].2.2) ∧ (Rep.slice sum).rep q w f1 [.slice A1 xs[k].2.1.length c1] xs[k].2.1 := by
 obtain ⟨b, o, f, cs, rfl, hb, hr, hc, _⟩ := slice_at h hk
 obtain ⟨A1, c1, f1, _, rfl, r1⟩ := arg_open hr
 have hn : arg.n = 3 := rfl
 rw [hn] at hc
 exact ⟨b, o, A1, c1, f1, rfl, hb, hc 0 (by omega), hc 1 (by omega), hc 2 (by omega), r1⟩
theorem ArgS.arg_at {w : World} {A : Option Addr} {n c : Nat} {xs : List ArgT} (h : ArgS arg w A n c xs) {k : Nat} (hk : k < xs.length) :
  ∃ b o A1 c1, A = some ⟨b, o, none⟩ ∧ b < w.heap.size ∧ w.cell? ⟨b, o + k * 3, none⟩ = some (.bool xs[k].1) ∧ w.cell? ⟨b, o + k * 3 + 1, none⟩ = some (.slice A1 xs[k].2.1.length c1) ∧ w.cell? ⟨b, o + k * 3 + 2, none⟩ = some (.string xs[k].2.2) ∧ ArgS sum w A1 xs[k].2.1.length c1 xs[k].2.1 := by
 obtain ⟨q, fp, h⟩ := h
 obtain ⟨b, o, A1, c1, f1, rfl, hb, h0, h1, h2, r1⟩ := args_at h hk
 exact ⟨b, o, A1, c1, rfl, hb, h0, h1, h2, q, f1, r1⟩
def szArgU (x : ArgT) : Nat := (x.2.1.length + szs szSum x.2.1) + x.2.2.size
def WfArgU (x : ArgT) : Prop := True ∧ x.2.1.length ≤ 9223372036854775807 ∧ (∀ e ∈ x.2.1, WfSum e) ∧ x.2.2.size ≤ 9223372036854775807
def mkArgU (k : Nat) (x : ArgT) : ArgT := (mb (k), mks mkSum nSum (k + 1) x.2.1, StrK.mt (k + 1 + szs nSum x.2.1))
def nArgU (x : ArgT) : Nat := 2 + szs nSum x.2.1
theorem nArgU_le (x : ArgT) : nArgU x ≤ 8 * (1 + szArgU x) := by
 have h1 := szs_bound nSum_le x.2.1
 unfold nArgU szArgU
 omega
theorem infoArg : (Tryz.prog.info? 46).map (fun i => (i.zero, i.size, i.bytes)) = some (some (.agg #[.bool false, .slice none 0 0, .string ByteArray.empty]), 3, 48) := by kernel_rfl
def zeroArg : El ArgT := ([], [.bool false, .slice none 0 0, .string ByteArray.empty], (false, [], ByteArray.empty))
set_option maxHeartbeats 4000000 in
set_option maxRecDepth 100000 in
theorem copyArgU (q1 : Bool) (f1 : List Nat) (z0 : Bool) (A1 : Option Addr) (c1 : Nat) (x1 : List SumT) (z2 : ByteArray) (w : World) (h1 : (Rep.slice sum).rep q1 w f1 [.slice A1 x1.length c1] x1) (hl : szArgU (z0, x1, z2) ≤ 100000000) :
  Calls Tryz.prog 152 #[.agg #[.bool z0, .slice A1 x1.length c1, .string z2]] w fun e w' => ∃ B1, e = .returned (.agg #[.bool z0, .slice B1 x1.length x1.length, .string z2]) ∧ OwnR arg w.heap.size w'.heap.size w' [.bool z0, .slice B1 x1.length x1.length, .string z2] (z0, x1, z2) ∧ Below w.heap.size w w' := by
 simp only [szArgU] at hl
 have CP0 := Lib.hid (fun W (h : Below w.heap.size w W) => copySumSU q1 f1 A1 c1 x1 W (Rep.below h1 h) (by omega))
 clear hl h1
 go_enter Tryz.func152, Tryz.ntmps152
 go_wp2_with fail
 refine (Calls.mono (CP0.out _ (by repeat (first | with_reducible exact Below.refl _ _ | with_reducible exact Below.refl _ _ | refine Below.setCell ?_ (by first | omega | (simp; done) | (simp; omega)) _ | refine Below.alloc ?_ (by first | omega | (simp; done) | (simp; omega)) _)))) ?_
 rintro e w0 ⟨D1, rfl, o0, b0⟩
 have B0 : Below w.heap.size w w0 := below_step (by repeat (first | with_reducible exact Below.refl _ _ | with_reducible exact Below.refl _ _ | refine Below.setCell ?_ (by first | omega | (simp; done) | (simp; omega)) _ | refine Below.alloc ?_ (by first | omega | (simp; done) | (simp; omega)) _)) b0
 have hz0 := b0.size
 simp only [World.size_alloc] at hz0 o0
 have VA0 := (((Lvar.new w #[Value.bool z0, Value.slice A1 x1.length c1, Value.string z2] 143).alloc (Obj.cells #[Value.bool false, Value.slice none 0 0, Value.string ByteArray.empty] 46)).alloc (Obj.cells #[Value.bool z0, Value.slice none 0 0, Value.string ByteArray.empty] 46)).below b0
 have VB0 := ((Lvar.new (w.alloc (Obj.cells #[Value.bool z0, Value.slice A1 x1.length c1, Value.string z2] 143)) #[Value.bool false, Value.slice none 0 0, Value.string ByteArray.empty] 46).alloc (Obj.cells #[Value.bool z0, Value.slice none 0 0, Value.string ByteArray.empty] 46)).below b0
 have VC0 := (Lvar.new ((w.alloc (Obj.cells #[Value.bool z0, Value.slice A1 x1.length c1, Value.string z2] 143)).alloc (Obj.cells #[Value.bool false, Value.slice none 0 0, Value.string ByteArray.empty] 46)) #[Value.bool z0, Value.slice none 0 0, Value.string ByteArray.empty] 46).below b0
 simp only [World.size_alloc] at VB0 VC0
 have cA0_0 := VA0.cell 0 _ rfl
 have cA0_1 := VA0.cell 1 _ rfl
 have cA0_2 := VA0.cell 2 _ rfl
 have cB0_0 := VB0.cell 0 _ rfl
 have cB0_1 := VB0.cell 1 _ rfl
 have cB0_2 := VB0.cell 2 _ rfl
 have yB0_0 := VB0.frozen 0
 have yB0_1 := VB0.frozen 1
 have yB0_2 := VB0.frozen 2
 have cC0_0 := VC0.cell 0 _ rfl
 have cC0_1 := VC0.cell 1 _ rfl
 have cC0_2 := VC0.cell 2 _ rfl
 have yC0_0 := VC0.frozen 0
 have yC0_1 := VC0.frozen 1
 have yC0_2 := VC0.frozen 2
 have VA0 := Lib.hid VA0
 have VB0 := Lib.hid VB0
 have VC0 := Lib.hid VC0
 clear b0
 go_wp2_with fail
 obtain ⟨T9, hT9⟩ := (show Lvar _ (w.heap.size + 1) #[Value.bool z0, Value.slice D1 x1.length x1.length, Value.string z2] from (((((VB0.out.other (p := ⟨w.heap.size + 1 + 1, 1, none⟩) (by first | omega | (simp; done) | (simp; omega)) (Value.slice D1 x1.length x1.length)).other (p := ⟨w.heap.size + 1 + 1, 2, none⟩) (by first | omega | (simp; done) | (simp; omega)) (Value.string z2)).set 0 (Value.bool z0)).set 1 (Value.slice D1 x1.length x1.length)).set 2 (Value.string z2)))
 obtain ⟨i9, hi9, _, hs9, _⟩ := info_parts infoArg
 refine bodyPost_ret (results_cell_row rfl _ _ (w.heap.size + 1) T9 #[.bool z0, .slice D1 x1.length x1.length, .string z2] _ _ rfl hT9 Tryz.underlying46 rfl (by rw [hi9, Option.map_some, hs9]; rfl)) rfl ?_
 have key : ∀ {u : World}, Mod w.heap.size (w.heap.size + 3) w0 u → OwnR arg w.heap.size u.heap.size u [.bool z0, .slice D1 x1.length x1.length, .string z2] (z0, x1, z2) ∧ Below w.heap.size w u := fun {u} hm => by
  have hs := hm.size
  have o0 := OwnR.keep o0 hm (Or.inr (by omega))
  exact ⟨(OwnR.prod (mid := w.heap.size) (OwnR.bool (by omega) z0) (OwnR.prod (mid := w0.heap.size) (o0.wider (lo' := w.heap.size) (hi' := w0.heap.size) (by omega) (by omega) (by omega)) (OwnR.str (by omega) z2) (by omega) (by omega)) (by omega) (by omega)), below_mod B0 hm (Nat.le_refl _) B0.size⟩
 refine ⟨D1, rfl, key ?_⟩
 repeat (first | with_reducible exact Mod.refl _ _ _ | refine Mod.trans ?_ (Mod.set _ (by first | omega | (simp; done) | (simp; omega)) (by first | omega | (simp; done) | (simp; omega)) _))
set_option maxHeartbeats 4000000 in
set_option maxRecDepth 100000 in
theorem sizeArgU (q1 : Bool) (f1 : List Nat) (z0 : Bool) (A1 : Option Addr) (c1 : Nat) (x1 : List SumT) (z2 : ByteArray) (L : Nat) (w : World) (h1 : (Rep.slice sum).rep q1 w f1 [.slice A1 x1.length c1] x1) (hL : L ≤ 1000000000) (hs : WfArgU (z0, x1, z2)) :
  Calls Tryz.prog 147 #[.agg #[.bool z0, .slice A1 x1.length c1, .string z2], .int .i64 L] w fun e w' => e = .returned (.int .i64 (IntK.leftOf L (szArgU (z0, x1, z2)))) ∧ Below w.heap.size w w' := by
 simp only [WfArgU] at hs
 obtain ⟨hs0, hs1a, hs1b, hs2⟩ := hs
 have B0 := Lib.hid ((Below.refl w.heap.size w).alloc (Nat.le_refl _) (Obj.cells #[Value.bool z0, Value.slice A1 x1.length c1, Value.string z2] 143))
 have V0 := Lib.hid (Lvar.new w #[Value.bool z0, Value.slice A1 x1.length c1, Value.string z2] 143)
 have SZ0 := fun W (h : Below w.heap.size w W) => sizeSumSU q1 f1 A1 c1 L x1 W (Rep.below h1 h) (by omega) hs1a hs1b
 unfold IntK.leftOf at SZ0
 by_cases g0 : (x1.length + szs szSum x1) ≤ L
 ·obtain ⟨m0, hm0⟩ : ∃ m : Nat, m = L - (x1.length + szs szSum x1) := ⟨_, rfl⟩
  simp only [if_pos g0, show ((L : Nat) : Int) - (((x1.length + szs szSum x1) : Nat) : Int) = (m0 : Int) by omega] at SZ0
  have hd0 : decide ((m0 : Int) < 0) = false := decide_eq_false (by omega)
  have HM0 := Lib.hid (show m0 + (x1.length + szs szSum x1) = L by omega)
  have SZ0 := Lib.hid SZ0
  have hL0 : m0 ≤ 1000000000 := by omega
  clear g0 hm0
  by_cases g1 : z2.size ≤ m0
  ·obtain ⟨m1, hm1⟩ : ∃ m : Nat, m = m0 - z2.size := ⟨_, rfl⟩
   have hq1 : (m0 : Int) - (z2.size : Int) = (m1 : Int) := by omega
   have hd1 : decide ((m1 : Int) < 0) = false := decide_eq_false (by omega)
   have HM1 := Lib.hid (show m1 + z2.size = m0 by omega)
   have hL1 : m1 ≤ 1000000000 := by omega
   clear g1 hm1
   have HR := Lib.hid (show IntK.leftOf L (szArgU (z0, x1, z2)) = (m1 : Int) by simp only [szArgU]; unfold IntK.leftOf; have := HM0.out; have := HM1.out; rw [if_pos (by omega)]; omega)
   clear hs0 hs1a hs1b h1
   go_enter Tryz.func147, Tryz.ntmps147
   go_wp2_with fail
   refine (Calls.mono (SZ0.out _ B0.out)) ?_
   rintro e w1 ⟨rfl, b1⟩
   have B1 := Lib.hid (below_step B0.out b1)
   have V1 := Lib.hid (V0.out.below b1)
   clear b1
   have v1_0 := V1.out.cell 0 _ rfl
   have v1_1 := V1.out.cell 1 _ rfl
   have v1_2 := V1.out.cell 2 _ rfl
   go_wp2
   go_ret
   exact ⟨by rw [HR.out]; rfl, B1.out⟩
  ·have HM := Lib.hid g1
   have hd1 : decide ((m0 : Int) - (z2.size : Int) < 0) = true := decide_eq_true (by omega)
   clear g1
   have HR := Lib.hid (show IntK.leftOf L (szArgU (z0, x1, z2)) = -1 by simp only [szArgU]; unfold IntK.leftOf; have := HM0.out; have := HM.out; rw [if_neg (by omega)])
   clear hs0 hs1a hs1b h1
   go_enter Tryz.func147, Tryz.ntmps147
   go_wp2_with fail
   refine (Calls.mono (SZ0.out _ B0.out)) ?_
   rintro e w1 ⟨rfl, b1⟩
   have B1 := Lib.hid (below_step B0.out b1)
   have V1 := Lib.hid (V0.out.below b1)
   clear b1
   have v1_0 := V1.out.cell 0 _ rfl
   have v1_1 := V1.out.cell 1 _ rfl
   have v1_2 := V1.out.cell 2 _ rfl
   go_wp2
   go_ret
   exact ⟨by rw [HR.out]; rfl, B1.out⟩
 ·have HM := Lib.hid g0
  simp only [if_neg g0] at SZ0
  have SZ0 := Lib.hid SZ0
  clear g0
  have HR := Lib.hid (show IntK.leftOf L (szArgU (z0, x1, z2)) = -1 by simp only [szArgU]; unfold IntK.leftOf; have := HM.out; rw [if_neg (by omega)])
  clear hs0 hs1a hs1b h1
  go_enter Tryz.func147, Tryz.ntmps147
  go_wp2_with fail
  refine (Calls.mono (SZ0.out _ B0.out)) ?_
  rintro e w1 ⟨rfl, b1⟩
  have B1 := Lib.hid (below_step B0.out b1)
  have V1 := Lib.hid (V0.out.below b1)
  clear b1
  have v1_0 := V1.out.cell 0 _ rfl
  have v1_1 := V1.out.cell 1 _ rfl
  have v1_2 := V1.out.cell 2 _ rfl
  go_wp2
  go_ret
  exact ⟨by rw [HR.out]; rfl, B1.out⟩
set_option maxHeartbeats 4000000 in
set_option maxRecDepth 100000 in
theorem eqArgU (q1 p1 : Bool) (f1 g1 : List Nat) (z0 : Bool) (A1 : Option Addr) (c1 : Nat) (x1 : List SumT) (z2 : ByteArray) (B1 : Option Addr) (d1 : Nat) (w : World) (h1 : (Rep.slice sum).rep q1 w f1 [.slice A1 x1.length c1] x1) (k1 : (Rep.slice sum).rep p1 w g1 [.slice B1 x1.length d1] x1) (hl : szArgU (z0, x1, z2) ≤ 100000000) :
  Calls Tryz.prog 157 #[.agg #[.bool z0, .slice A1 x1.length c1, .string z2], .agg #[.bool z0, .slice B1 x1.length d1, .string z2]] w fun e w' => e = .returned (.bool true) ∧ Below w.heap.size w w' := by
 simp only [szArgU] at hl
 have EQ0 := Lib.hid (fun W (h : Below w.heap.size w W) => eqSumSU q1 p1 f1 g1 A1 B1 c1 d1 x1 W (Rep.below h1 h) (Rep.below k1 h) (by omega))
 have BB0 := Lib.hid (((Below.refl w.heap.size w).alloc (Nat.le_refl _) (Obj.cells #[Value.bool z0, Value.slice A1 x1.length c1, Value.string z2] 46)).alloc (by simp) (Obj.cells #[Value.bool z0, Value.slice B1 x1.length d1, Value.string z2] 46))
 have V0 := Lib.hid ((Lvar.new w #[Value.bool z0, Value.slice A1 x1.length c1, Value.string z2] 46).alloc (Obj.cells #[Value.bool z0, Value.slice B1 x1.length d1, Value.string z2] 46))
 have U0 := Lib.hid (Lvar.new (w.alloc (Obj.cells #[Value.bool z0, Value.slice A1 x1.length c1, Value.string z2] 46)) #[Value.bool z0, Value.slice B1 x1.length d1, Value.string z2] 46)
 simp only [World.size_alloc] at U0
 clear hl h1 k1
 go_enter Tryz.func157, Tryz.ntmps157
 go_wp2_with fail
 refine (Calls.mono (EQ0.out _ ?_)) ?_
 ·first | exact BB0.out | exact BB0.out.drew | exact below_drewN BB0.out _
 rintro e w1 ⟨rfl, b1⟩
 have BB1 := Lib.hid (show Below w.heap.size w w1 from by first | exact BB0.out.trans (b1.mono BB0.out.size) | exact BB0.out.drew.trans (b1.mono BB0.out.size) | exact (below_drewN BB0.out _).trans (b1.mono BB0.out.size))
 have V1 := Lib.hid (show Lvar w1 _ _ from by first | exact V0.out.below b1 | exact (V0.out.below (Below.refl _ _).drew).below b1)
 have v1_0 := V1.out.cell 0 _ rfl
 have v1_1 := V1.out.cell 1 _ rfl
 have v1_2 := V1.out.cell 2 _ rfl
 have U1 := Lib.hid (show Lvar w1 _ _ from by first | exact U0.out.below b1 | exact (U0.out.below (Below.refl _ _).drew).below b1)
 have u1_0 := U1.out.cell 0 _ rfl
 have u1_1 := U1.out.cell 1 _ rfl
 have u1_2 := U1.out.cell 2 _ rfl
 clear b1
 go_wp2
 go_ret
 exact ⟨rfl, BB1.out⟩
theorem run_mkArgU (n : Nat) (hn : n ≤ 100000000000) (u : World) : (Instr.makeSlice 110 (.int .i64 (n : Int)) (.int .i64 (n : Int))).run Tryz.prog u =
  .ok (.slice (some ⟨u.heap.size, 0, none⟩) n n) (u.alloc (.cells (madeCells #[.bool false, .slice none 0 0, .string ByteArray.empty] (n * 3)) 46)) := by
 obtain ⟨i0, hi, hz0, hz1, hz2⟩ := info_parts infoArg
 have h := run_make (P := Tryz.prog) u 110 46 i0 (.agg #[.bool false, .slice none 0 0, .string ByteArray.empty]) Tryz.underlying110 hi hz0 .i64 .i64 (n : Int) (n : Int) (by omega) (Int.le_refl _) (by rw [hz2]; omega) (by omega)
 simpa [hz1, Value.cells] using h
set_option maxHeartbeats 4000000 in
set_option maxRecDepth 100000 in
theorem copyArgSU (q : Bool) (fp : List Nat) (A : Option Addr) (c : Nat) (xs : List ArgT) (w : World) (hA : (Rep.slice arg).rep q w fp [.slice A xs.length c] xs) (hl : xs.length + szs szArgU xs ≤ 100000000) :
  Calls Tryz.prog 212 #[.slice A xs.length c] w (CopiedU arg w xs) := by
 have hxl : xs.length ≤ 100000000 := by omega
 have hmk := run_mkArgU xs.length (by omega)
 have HZ := Lib.hid (Filling.made (r := arg) (e := 46) (z := zeroArg) (ok := fun b => w.heap.size ≤ b) w (madeCells #[.bool false, .slice none 0 0, .string ByteArray.empty] (xs.length * 3)) (made_gen [.bool false, .slice none 0 0, .string ByteArray.empty] ((false, [], ByteArray.empty) : ArgT) (by simp) xs.length) (Nat.le_refl _))
 have HB0 := Lib.hid ((Below.refl w.heap.size w).alloc (Nat.le_refl _) (Obj.cells (madeCells #[.bool false, .slice none 0 0, .string ByteArray.empty] (xs.length * 3)) 46))
 have HL := Lib.hid hl
 have HA := Lib.hid hA
 clear hl hA
 go_enter Tryz.func212, Tryz.ntmps212
 go_wp2
 go_loopw [4] (fun i wr => ∃ k : Nat, k ≤ xs.length ∧ i = .int .i64 k ∧ Filling arg 46 zeroArg (fun b => w.heap.size ≤ b) wr w.heap.size xs.length (xs.take k) ∧ Below w.heap.size w wr) (fun i _ => xs.length - (intOf i).toNat)
 case atStart => exact ⟨0, Nat.zero_le _, rfl, HZ.out, HB0.out⟩
 case round =>
  obtain ⟨k, hk, rfl, hS, hb⟩ := hrel
  have HS := Lib.hid hS
  have HB := Lib.hid hb
  clear hS hb
  by_cases hlt : k < xs.length
  ·obtain ⟨b, o, A1, c1, f1, rfl, hbb, g0, g1, g2, t1⟩ := args_at (Rep.below HA.out HB.out) hlt
   have htl : (xs.take k).length = k := by rw [List.length_take]; omega
   have hk' : (xs.take k).length < xs.length := by rw [htl]; exact hlt
   obtain ⟨p0, y0⟩ := HS.out.cell (j := 0) (u := .bool false) rfl hk' (by decide) rfl
   have p0 : wr.cell? ⟨w.heap.size, (xs.take k).length * 3, none⟩ = some (.bool false) := p0
   have y0 : wr.frozen? ⟨w.heap.size, (xs.take k).length * 3, none⟩ = false := y0
   obtain ⟨p1, y1⟩ := HS.out.cell (j := 1) (u := .slice none 0 0) rfl hk' (by decide) rfl
   have p1 : wr.cell? ⟨w.heap.size, (xs.take k).length * 3 + 1, none⟩ = some (.slice none 0 0) := p1
   have y1 : wr.frozen? ⟨w.heap.size, (xs.take k).length * 3 + 1, none⟩ = false := y1
   obtain ⟨p2, y2⟩ := HS.out.cell (j := 2) (u := .string ByteArray.empty) rfl hk' (by decide) rfl
   have p2 : wr.cell? ⟨w.heap.size, (xs.take k).length * 3 + 2, none⟩ = some (.string ByteArray.empty) := p2
   have y2 : wr.frozen? ⟨w.heap.size, (xs.take k).length * 3 + 2, none⟩ = false := y2
   rw [htl] at p0 y0 p1 y1 p2 y2
   have hz := HS.out.lt
   have HT := Lib.hid (take_snoc hlt)
   have HTL := Lib.hid htl
   have hs9 : szArgU xs[k] ≤ 100000000 := by
    have := HL.out
    have := szs_mem (sz := szArgU) (List.getElem_mem hlt)
    omega
   clear htl hk'
   generalize xs[k] = x at *
   obtain ⟨z0, x1, z2⟩ := x
   simp only at g0 g1 g2 t1
   have CP := Lib.hid (copyArgU _ f1 z0 A1 c1 x1 z2 wr t1 hs9)
   have hi0 : (0 : Int) ≤ (k : Int) := by omega
   have hi1 : (k : Int) < (xs.length : Int) := by omega
   go_wp2_with fail
   refine (Calls.mono CP.out) ?_
   rintro e w1 ⟨D1, rfl, ⟨_, fG, k1, k2, k3⟩, b1⟩
   have HW := Lib.hid b1
   have hS2 := Filling.snoc (m := wr.heap.size) HS.out rfl (by rw [HTL.out]; exact hlt) b1 (Nat.le_refl _) k1 k2 (fun b hb => (k3 b hb).1) (fun b hb => Nat.le_trans HB.out.size hb)
   rw [HTL.out, ← HT.out] at hS2
   have HS2 := Lib.hid (show Filling arg 46 zeroArg (fun b => w.heap.size ≤ b) (((w1.setCell ⟨w.heap.size, k * 3, none⟩ (.bool z0)).setCell ⟨w.heap.size, k * 3 + 1, none⟩ (.slice D1 x1.length x1.length)).setCell ⟨w.heap.size, k * 3 + 2, none⟩ (.string z2)) w.heap.size xs.length (xs.take (k + 1)) from hS2)
   have HB2 := Lib.hid ((((HB.out.trans (b1.mono HB.out.size)).setCell (p := ⟨w.heap.size, k * 3, none⟩) (Nat.le_refl _) (.bool z0)).setCell (p := ⟨w.heap.size, k * 3 + 1, none⟩) (Nat.le_refl _) (.slice D1 x1.length x1.length)).setCell (p := ⟨w.heap.size, k * 3 + 2, none⟩) (Nat.le_refl _) (.string z2))
   have p0' := (b1.cell (p := ⟨w.heap.size, k * 3, none⟩) hz).trans p0
   have y0' := (b1.frozen (p := ⟨w.heap.size, k * 3, none⟩) hz).trans y0
   have p1' := (b1.cell (p := ⟨w.heap.size, k * 3 + 1, none⟩) hz).trans p1
   have y1' := (b1.frozen (p := ⟨w.heap.size, k * 3 + 1, none⟩) hz).trans y1
   have p2' := (b1.cell (p := ⟨w.heap.size, k * 3 + 2, none⟩) hz).trans p2
   have y2' := (b1.frozen (p := ⟨w.heap.size, k * 3 + 2, none⟩) hz).trans y2
   clear hS2 b1 k1 k2 k3 p0 y0 g0 p1 y1 g1 p2 y2 g2
   go_wp2
   go_roundw
   case rel => exact ⟨k + 1, by omega, by go_num, HS2.out, HB2.out⟩
   case measure => simp [intOf]; omega
  ·obtain rfl : k = xs.length := by omega
   have hS := HS.out
   rw [List.take_length] at hS
   obtain ⟨A2, c2, fp2, h1, h2, h3, h4⟩ := (hS.done (by unfold maxLen; have := HL.out; omega)).rep (by decide)
   injection h1 with h1 _ h5
   subst h1; subst h5
   have HN := Lib.hid (show New (Rep.slice arg) w xs wr [.slice (some ⟨w.heap.size, 0, none⟩) xs.length xs.length] from ⟨fp2, h2, h3, h4⟩)
   clear hS HS h2 h3 h4
   go_wp2
   go_ret
   exact ⟨_, rfl, OwnR.of_new HN.out, HB.out⟩

def SzArgU (w : World) (xs : List ArgT) (m : Nat) (x i : Value) (wr : World) : Prop :=
 ∃ k l : Nat, k ≤ xs.length ∧ i = .int .i64 k ∧ x = .int .i64 l ∧ l + szs szArgU (xs.take k) + xs.length = m ∧ Below w.heap.size w wr
set_option maxHeartbeats 4000000 in
set_option maxRecDepth 100000 in
theorem sizeArgSU (q : Bool) (fp : List Nat) (A : Option Addr) (c L : Nat) (xs : List ArgT) (w : World) (hA : (Rep.slice arg).rep q w fp [.slice A xs.length c] xs) (hL : L ≤ 1000000000) (hl : xs.length ≤ 9223372036854775807) (hs : ∀ x ∈ xs, WfArgU x) :
  Calls Tryz.prog 209 #[.slice A xs.length c, .int .i64 L] w fun e w' => e = .returned (.int .i64 (IntK.leftOf L (xs.length + szs szArgU xs))) ∧ Below w.heap.size w w' := by
 have HS := Lib.hid hs
 by_cases h0 : xs.length ≤ L
 ·have hlt0 : decide ((L : Int) - (xs.length : Int) < 0) = false := decide_eq_false (by omega)
  have hx9 : xs.length ≤ 1000000000 := by omega
  clear hs
  go_enter Tryz.func209, Tryz.ntmps209
  go_wp2
  go_loopw [1, 5] (fun x i wr => SzArgU w xs L x i wr) (fun _ i _ => xs.length - (intOf i).toNat)
  case atStart => exact ⟨0, L - xs.length, Nat.zero_le _, rfl, congrArg (Value.int .i64) (by omega), by simp [szs]; omega, Below.refl _ _⟩
  case round =>
   obtain ⟨k, l, hk, rfl, rfl, hsum, hb⟩ := hrel
   by_cases hlt : k < xs.length
   ·obtain ⟨b, o, A1, c1, f1, rfl, hbb, g0, g1, g2, t1⟩ := args_at (Rep.below hA hb) hlt
    have hxs := HS.out _ (List.getElem_mem hlt)
    have hts := szs_step (sz := szArgU) hlt
    have hle := szs_take (sz := szArgU) xs (k + 1)
    generalize xs[k] = x at *
    obtain ⟨z0, x1, z2⟩ := x
    simp only at g0 g1 g2 t1
    obtain ⟨s0, hs0⟩ : ∃ s0 : Nat, s0 = szArgU (z0, x1, z2) := ⟨_, rfl⟩
    have SZ := Lib.hid (sizeArgU _ f1 z0 A1 c1 x1 z2 l wr t1 (by omega) hxs)
    rw [← hs0] at SZ hts
    have HT := Lib.hid hts
    have HE := Lib.hid hle
    have HM := Lib.hid hsum
    unfold IntK.leftOf at SZ
    clear hts hle hsum hxs hs0
    by_cases hc : s0 ≤ l
    ·rw [if_pos hc] at SZ
     obtain ⟨l', rfl⟩ : ∃ l', l = s0 + l' := ⟨l - s0, by omega⟩
     rw [show ((s0 + l' : Nat) : Int) - ((s0 : Nat) : Int) = (l' : Int) by omega] at SZ
     have hl0 : decide ((l' : Int) < 0) = false := decide_eq_false (by omega)
     clear hc
     go_wp2_with fail
     refine (Calls.mono SZ.out) ?_
     rintro e w1 ⟨rfl, b1⟩
     have B1 := Lib.hid (hb.trans (b1.mono hb.size))
     clear b1
     go_wp2
     go_roundw
     case rel => exact ⟨k + 1, l', by omega, by go_num, rfl, by have := HM.out; have := HT.out; omega, B1.out⟩
     case measure => simp [intOf]; omega
    ·rw [if_neg hc] at SZ
     have HR := Lib.hid (show IntK.leftOf L (xs.length + szs szArgU xs) = -1 from if_neg (by have := HM.out; have := HT.out; have := HE.out; omega))
     clear hc
     go_wp2_with fail
     refine (Calls.mono SZ.out) ?_
     rintro e w1 ⟨rfl, b1⟩
     have B1 := Lib.hid (hb.trans (b1.mono hb.size))
     clear b1
     go_wp2
     go_ret
     exact ⟨by rw [HR.out]; rfl, B1.out⟩
   ·obtain rfl : k = xs.length := by omega
    rw [List.take_length] at hsum
    have HR := Lib.hid (show IntK.leftOf L (xs.length + szs szArgU xs) = (l : Int) by
     unfold IntK.leftOf
     rw [if_pos (by omega)]
     omega)
    clear hsum
    go_wp2
    go_ret
    exact ⟨by rw [HR.out]; rfl, hb⟩
 ·have HR := Lib.hid (show IntK.leftOf L (xs.length + szs szArgU xs) = -1 from if_neg (by omega))
  have hlt0 : decide ((L : Int) - (xs.length : Int) < 0) = true := decide_eq_true (by omega)
  clear hs
  go_enter Tryz.func209, Tryz.ntmps209
  go_wp2
  go_ret
  exact ⟨by rw [HR.out]; rfl, Below.refl _ _⟩

set_option maxHeartbeats 4000000 in
set_option maxRecDepth 100000 in
theorem eqArgSU (q q2 : Bool) (fp gp : List Nat) (A B : Option Addr) (c d : Nat) (xs : List ArgT) (w : World) (hA : (Rep.slice arg).rep q w fp [.slice A xs.length c] xs) (hB : (Rep.slice arg).rep q2 w gp [.slice B xs.length d] xs) (hl : xs.length + szs szArgU xs ≤ 100000000) :
  Calls Tryz.prog 215 #[.slice A xs.length c, .slice B xs.length d] w fun e w' => e = .returned (.bool true) ∧ Below w.heap.size w w' := by
 have HL := Lib.hid hl
 clear hl
 have hxl : xs.length ≤ 1000000000 := by have := HL.out; omega
 go_enter Tryz.func215, Tryz.ntmps215
 go_wp2
 go_loopw [5] (fun i wr => ∃ k : Nat, k ≤ xs.length ∧ i = .int .i64 k ∧ Below w.heap.size w wr) (fun i _ => xs.length - (intOf i).toNat)
 case atStart => exact ⟨0, Nat.zero_le _, rfl, Below.refl _ _⟩
 case round =>
  obtain ⟨k, hk, rfl, hb⟩ := hrel
  by_cases hlt : k < xs.length
  ·obtain ⟨b, o, A1, c1, f1, rfl, hbb, g0, g1, g2, t1⟩ := args_at (Rep.below hA hb) hlt
   obtain ⟨b', o', A1', c1', f1', rfl, hbb', g0', g1', g2', t1'⟩ := args_at (Rep.below hB hb) hlt
   have hs9 : szArgU xs[k] ≤ 100000000 := by
    have := HL.out
    have := szs_mem (sz := szArgU) (List.getElem_mem hlt)
    omega
   generalize xs[k] = x at *
   obtain ⟨z0, x1, z2⟩ := x
   simp only at g0 g0' g1 g1' g2 g2' t1 t1'
   have hd : Below wr.heap.size wr wr.drew := (Below.refl _ _).drew
   have EQ := Lib.hid (eqArgU _ _ f1 f1' z0 A1 c1 x1 z2 A1' c1' wr.drew (Rep.below t1 hd) (Rep.below t1' hd) hs9)
   have hi0 : (0 : Int) ≤ (k : Int) := by omega
   have hi1 : (k : Int) < (xs.length : Int) := by omega
   clear hd
   go_wp2_with fail
   go_region_law (first
    | (go_simp; go_at_call 157; refine (Calls.mono EQ.out) ?_; rintro e w1 ⟨rfl, b1⟩))
   all_goals
    have B1' := Lib.hid (hb.trans (((Below.refl wr.heap.size wr).drew.trans b1).mono hb.size))
    clear b1
    go_wp2
    go_roundw
    case rel => exact ⟨k + 1, by omega, by go_num, B1'.out⟩
    case measure => simp [intOf]; omega
  ·go_wp2
   go_ret
   exact ⟨rfl, hb⟩

set_option maxHeartbeats 4000000 in
set_option maxRecDepth 100000 in
theorem markArgSU (fp : List Nat) (A : Option Addr) (c k0 : Nat) (xs : List ArgT) (w : World) (hA : (Rep.slice arg).rep true w fp [.slice A xs.length c] xs) (hn : fp.Nodup) (h1 : 1 ≤ k0) (hk0 : k0 + 8 * (xs.length + szs szArgU xs) ≤ 1000000000) :
  Calls Tryz.prog 160 #[.slice A xs.length c, .int .i64 k0] w (MarkedU arg mkArgU nArgU fp w A c k0 xs) := by
 by_cases h0 : xs = []
 ·subst h0
  have F := Lib.hid (show MarkedU arg mkArgU nArgU fp w A c k0 [] (.returned (.int .i64 k0)) w from ⟨by simp [szs], hA, ModF.refl _ _⟩)
  clear hA
  go_enter Tryz.func160, Tryz.ntmps160
  go_wp2
  refine wp_loop_rounds 1 ?_
  rw [rounds_succ]
  go_wp2
  go_ret
  exact F.out
 ·have HK := Lib.hid hk0
  have hxl : xs.length ≤ 1000000000 := by omega
  have HK1 := Lib.hid h1
  have HNE := Lib.hid h0
  have HC := Lib.hid (show xs.length ≤ c by
   obtain ⟨_, _, e, h, _⟩ := hA
   injection e with e _
   injection e with _ _ e
   omega)
  have M0 := Lib.hid (marking_zero (mk := mkArgU) (sz := nArgU) k0 hA hn h0)
  clear hA hk0 h0 hn h1
  go_enter Tryz.func160, Tryz.ntmps160
  go_wp2
  go_loopw [1, 5] (fun x i wr => Marking arg mkArgU nArgU fp w xs A k0 x i wr) (fun _ i _ => xs.length - (intOf i).toNat)
  case atStart => exact M0.out
  case round =>
   obtain ⟨k, l, rfl, rfl, hk, hl0⟩ : ∃ k l : Nat, u5 = .int .i64 k ∧ u1 = .int .i64 l ∧ k ≤ xs.length ∧ l = k0 + szs nArgU (xs.take k) := by
    obtain ⟨k, l, _, _, _, _, h1, h2, h3, h4, _⟩ := hrel
    exact ⟨k, l, h2, h3, h1, h4⟩
   by_cases hlt : k < xs.length
   ·obtain ⟨b, o, f, cs, rfl, hbb, hre, hnd, hbf, hcc, hff, hnext⟩ := marking_at hrel hlt
    have hl9 : 1 ≤ l ∧ l + 8 * (1 + szArgU xs[k]) ≤ 1000000000 := by
     have h2 := szs_bound nArgU_le (xs.take k)
     have h3 := szs_step (sz := szArgU) hlt
     have h4 := szs_take (sz := szArgU) xs (k + 1)
     have h5 : (xs.take k).length = k := by rw [List.length_take]; omega
     have := HK.out
     have := HK1.out
     omega
    clear hl0
    have HNX := Lib.hid hnext
    have HBF := Lib.hid hbf
    obtain ⟨A1, c1, f1, e9, rfl, r1⟩ := arg_open hre
    have e9 := e9.symm
    subst e9
    have g0 := hcc 0 (by decide)
    have g1 := hcc 1 (by decide)
    have g2 := hcc 2 (by decide)
    simp only [show arg.n = 3 from rfl, Nat.add_zero, List.getElem?_cons_zero, List.getElem?_cons_succ] at g0 g1 g2
    have hff : ∀ i, i < 3 → wr.frozen? ⟨b, o + k * 3 + i, none⟩ = false := hff
    have HFF := Lib.hid hff
    clear hnext hcc hff hre hrel
    generalize xs[k] = x at *
    obtain ⟨z0, x1, z2⟩ := x
    simp only [szArgU] at hl9
    obtain ⟨hl1, hl9⟩ := hl9
    simp only at g0 g1 g2 r1
    have hb1 := szs_bound nSum_le x1
    have hn1 := hnd
    have nb1 := hbf
    clear hnd hbf
    have E0 := Lib.hid (Elem.start (fp := f1) (wr := wr) (b := b) (p := o + k * 3) (cs := [.bool z0, .slice A1 x1.length c1, .string z2]) hbb (fun i v hi => by
     match i, hi with
     | 0, hi => injection hi with hi; subst hi; exact g0
     | 1, hi => injection hi with hi; subst hi; exact g1
     | 2, hi => injection hi with hi; subst hi; exact g2
     | j + 3, hi => simp at hi))
    have R0_1 := Lib.hid r1
    clear r1 hbb g0 g1 g2
    have hmb0 : decide (Int.tmod ((l : Int)) 3 = 0) = mb (l) := by rw [mb_eq, show ((l : Nat) : Int) = (l : Int) by omega]
    have MK1 := fun W (h : (Rep.slice sum).rep true W f1 [.slice A1 x1.length c1] x1) => markSumSU f1 A1 c1 (l + 1) x1 W h hn1 (by omega) (by omega)
    obtain ⟨m1, hm1⟩ : ∃ m : Nat, m = l + 1 + szs nSum x1 := ⟨_, rfl⟩
    unfold MarkedU at MK1
    simp only [← hm1] at MK1
    rw [show ((l + 1 : Nat) : Int) = (l : Int) + 1 by omega] at MK1
    have MK1 := Lib.hid MK1
    have MT2 := fun W => StrK.markText (m1) (by omega) (by omega) W
    have MT2 := Lib.hid MT2
    have HNAT := Lib.hid (show ((m1 + 1 : Nat) : Int) = (m1 : Int) + 1 by omega)
    have HM1 := Lib.hid hm1
    have hr1 : 0 ≤ m1 ∧ m1 ≤ 1000000000 := by omega
    have hr : l ≤ 1000000000 := by omega
    clear hl1 hl9 hm1 hb1
    have lt_0 := E0.out.lt
    have g0_0 := E0.out.cell 0 _ rfl
    have y0_0 := E0.out.free HFF.out (i := 0) (by simp)
    have g1_0 := E0.out.cell 1 _ rfl
    have y1_0 := E0.out.free HFF.out (i := 1) (by simp)
    have g2_0 := E0.out.cell 2 _ rfl
    have y2_0 := E0.out.free HFF.out (i := 2) (by simp)
    simp only [Nat.add_zero] at g0_0 y0_0
    have E1 := Lib.hid (show Elem b (o + k * 3) (f1) wr (wr.setCell ⟨b, o + k * 3, none⟩ (.bool (mb (l)))) [.bool (mb (l)), .slice A1 x1.length c1, .string z2] from E0.out.set (i := 0) (by simp) (.bool (mb (l))))
    have R1_1 := Lib.hid (Rep.keepF R0_1.out (ModF.set wr (p := ⟨b, o + k * 3, none⟩) (List.mem_singleton.2 rfl) (.bool (mb (l)))) (fun x hx h9 => by rw [List.mem_singleton.1 h9] at hx; exact nb1 hx))
    clear E0 R0_1
    go_wp2_with fail
    refine (Calls.mono (MK1.out _ R1_1.out)) ?_
    rintro e w2 ⟨rfl, r1, d2⟩
    have E2 := Lib.hid (E1.out.mod d2 nb1 (fun x hx => by simp [hx]))
    have R2_1 := Lib.hid r1
    clear d2 r1 E1 R1_1
    clear lt_0 g0_0 y0_0 g1_0 y1_0 g2_0 y2_0
    have lt_2 := E2.out.lt
    have g0_2 := E2.out.cell 0 _ rfl
    have y0_2 := E2.out.free HFF.out (i := 0) (by simp)
    have g1_2 := E2.out.cell 1 _ rfl
    have y1_2 := E2.out.free HFF.out (i := 1) (by simp)
    have g2_2 := E2.out.cell 2 _ rfl
    have y2_2 := E2.out.free HFF.out (i := 2) (by simp)
    simp only [Nat.add_zero] at g0_2 y0_2
    go_wp2_with fail
    refine (Calls.mono (MT2.out _)) ?_
    rintro e w3 ⟨rfl, d3⟩
    have E3 := Lib.hid (E2.out.below d3)
    have R3_1 := Lib.hid (Rep.below R2_1.out d3)
    clear d3 E2 R2_1
    clear lt_2 g0_2 y0_2 g1_2 y1_2 g2_2 y2_2
    have lt_3 := E3.out.lt
    have g0_3 := E3.out.cell 0 _ rfl
    have y0_3 := E3.out.free HFF.out (i := 0) (by simp)
    have g1_3 := E3.out.cell 1 _ rfl
    have y1_3 := E3.out.free HFF.out (i := 1) (by simp)
    have g2_3 := E3.out.cell 2 _ rfl
    have y2_3 := E3.out.free HFF.out (i := 2) (by simp)
    simp only [Nat.add_zero] at g0_3 y0_3
    have E4 := Lib.hid (show Elem b (o + k * 3) (f1) wr (w3.setCell ⟨b, o + k * 3 + 2, none⟩ (.string (StrK.mt (m1)))) [.bool (mb (l)), .slice A1 x1.length c1, .string (StrK.mt (m1))] from E3.out.set (i := 2) (by simp) (.string (StrK.mt (m1))))
    have R4_1 := Lib.hid (Rep.keepF R3_1.out (ModF.set w3 (p := ⟨b, o + k * 3 + 2, none⟩) (List.mem_singleton.2 rfl) (.string (StrK.mt (m1)))) (fun x hx h9 => by rw [List.mem_singleton.1 h9] at hx; exact nb1 hx))
    clear E3 R3_1
    have HN : Marking arg mkArgU nArgU fp w xs (some ⟨b, o, none⟩) k0 (.int .i64 ((m1 : Int) + 1)) (.int .i64 ((k : Int) + 1)) (w3.setCell ⟨b, o + k * 3 + 2, none⟩ (.string (StrK.mt (m1)))) := by
     have hE := E4.out
     have hnat := HNAT.out
     have hm1 := HM1.out
     have hR1 := R4_1.out
     have hN := HNX.out (w3.setCell ⟨b, o + k * 3 + 2, none⟩ (.string (StrK.mt (m1)))) [.bool (mb (l)), .slice A1 x1.length c1, .string (StrK.mt (m1))] (by
      simp only [mkArgU]
      have t1 := hR1
      rw [← mks_len (mk := mkSum) (sz := nSum) x1 (l + 1)] at t1
      have hh := arg_close (q := true) (w := (w3.setCell ⟨b, o + k * 3 + 2, none⟩ (.string (StrK.mt (m1))))) (mb (l)) (StrK.mt (m1)) t1
      simp only [mks_len] at hh
      subst hm1
      exact hh) hE.modF (fun j hj => hE.other (o + j) (by have hj : j < k * 3 ∨ k * 3 + 3 ≤ j := hj; simp only [List.length_cons, List.length_nil]; omega)) (fun i hi => by
      have hi : i < 3 := hi
      match i, hi with
      | 0, _ => exact hE.cell 0 _ rfl
      | 1, _ => exact hE.cell 1 _ rfl
      | 2, _ => exact hE.cell 2 _ rfl
      | j + 3, hi => omega) (fun j => hE.frozen (o + j))
     rw [show ((l + nArgU (z0, x1, z2) : Nat) : Int) = (m1 : Int) + 1 by simp only [nArgU]; omega, show ((k + 1 : Nat) : Int) = (k : Int) + 1 by omega] at hN
     exact hN
    have HN := Lib.hid HN
    clear E4 R4_1 HNX
    go_wp2
    go_roundw
    case rel => exact HN.out
    case measure => simp [intOf]; omega
   ·obtain rfl : k = xs.length := by omega
    obtain ⟨h1, h2, h3⟩ := marking_end HC.out HNE.out hrel
    have F := Lib.hid (show MarkedU arg mkArgU nArgU fp w A c k0 xs (.returned (.int .i64 l)) wr from ⟨by rw [h3]; simp, h1, h2⟩)
    clear h1 h2 h3 hrel
    go_wp2
    go_ret
    exact F.out
end Mem
end Go.Proofs.YtbbllkhmenpnlaaGreat

/-
  The laws' helpers on Call: copies, sizes, comparison, marks (made by tools/ukit.py).
-/
namespace Go.Proofs.YtbbllkhmenpnlaaGreat
open Go.RowKit
namespace Mem
open RowK

abbrev CallT := ByteArray × ByteArray × List ArgT
def call : Rep CallT := Rep.prod Rep.str (Rep.prod Rep.str (Rep.slice arg))
theorem call_open {q : Bool} {w : World} {fp : List Nat} {cs : List Value} {p : CallT} (h : call.rep q w fp cs p) : ∃ (A2 : Option Addr) (c2 : Nat) (f2 : List Nat), fp = f2 ∧ cs = [.string p.1, .string p.2.1, .slice A2 p.2.2.length c2] ∧ (Rep.slice arg).rep q w f2 [.slice A2 p.2.2.length c2] p.2.2 := by
 obtain ⟨g0, g0', d0, d0', rfl, rfl, k0, h'⟩ := h
 obtain ⟨rfl, rfl⟩ := k0
 obtain ⟨g1, g1', d1, d1', rfl, rfl, k1, h''⟩ := h'
 obtain ⟨rfl, rfl⟩ := k1
 have r2 := h''
 obtain ⟨A2, c2, rfl, _⟩ := h''
 exact ⟨A2, c2, _, by simp, rfl, r2⟩
theorem call_close {q : Bool} {w : World} {A2 : Option Addr} {c2 : Nat} {f2 : List Nat} {x2 : List ArgT} (z0 : ByteArray) (z1 : ByteArray) (h2 : (Rep.slice arg).rep q w f2 [.slice A2 x2.length c2] x2) : call.rep q w (f2) [.string z0, .string z1, .slice A2 x2.length c2] (z0, z1, x2) := by
 have e : (f2 : List Nat) = [] ++ ([] ++ (f2)) := by simp
 rw [e]
 exact (show call.rep q w ([] ++ ([] ++ (f2))) ([.string z0] ++ ([.string z1] ++ ([.slice A2 x2.length c2]))) _ from ⟨_, _, _, _, rfl, rfl, ⟨rfl, rfl⟩, ⟨_, _, _, _, rfl, rfl, ⟨rfl, rfl⟩, h2⟩⟩)
theorem calls_at {q : Bool} {w : World} {fp : List Nat} {A : Option Addr} {n c : Nat} {xs : List CallT} (h : (Rep.slice call).rep q w fp [.slice A n c] xs) {k : Nat} (hk : k < xs.length) :
  ∃ b o A2 c2 f2, A = some ⟨b, o, none⟩ ∧ b < w.heap.size ∧ w.cell? ⟨b, o + k * 3, none⟩ = some (.string xs[k].1) ∧ w.cell? ⟨b, o + k * 3 + 1, none⟩ = some (.string xs[k].2.1) ∧ w.cell? ⟨b, o + k * 3 + 2, none⟩ = some (.slice A2 xs[k].2.2.length c2) ∧ (Rep.slice arg).rep q w f2 [.slice A2 xs[k].2.2.length c2] xs[k].2.2 := by
 obtain ⟨b, o, f, cs, rfl, hb, hr, hc, _⟩ := slice_at h hk
 obtain ⟨A2, c2, f2, _, rfl, r2⟩ := call_open hr
 have hn : call.n = 3 := rfl
 rw [hn] at hc
 exact ⟨b, o, A2, c2, f2, rfl, hb, hc 0 (by omega), hc 1 (by omega), hc 2 (by omega), r2⟩
theorem ArgS.call_at {w : World} {A : Option Addr} {n c : Nat} {xs : List CallT} (h : ArgS call w A n c xs) {k : Nat} (hk : k < xs.length) :
  ∃ b o A2 c2, A = some ⟨b, o, none⟩ ∧ b < w.heap.size ∧ w.cell? ⟨b, o + k * 3, none⟩ = some (.string xs[k].1) ∧ w.cell? ⟨b, o + k * 3 + 1, none⟩ = some (.string xs[k].2.1) ∧ w.cell? ⟨b, o + k * 3 + 2, none⟩ = some (.slice A2 xs[k].2.2.length c2) ∧ ArgS arg w A2 xs[k].2.2.length c2 xs[k].2.2 := by
 obtain ⟨q, fp, h⟩ := h
 obtain ⟨b, o, A2, c2, f2, rfl, hb, h0, h1, h2, r2⟩ := calls_at h hk
 exact ⟨b, o, A2, c2, rfl, hb, h0, h1, h2, q, f2, r2⟩
def szCallU (x : CallT) : Nat := x.1.size + x.2.1.size + (x.2.2.length + szs szArgU x.2.2)
def WfCallU (x : CallT) : Prop := x.1.size ≤ 9223372036854775807 ∧ x.2.1.size ≤ 9223372036854775807 ∧ x.2.2.length ≤ 9223372036854775807 ∧ (∀ e ∈ x.2.2, WfArgU e)
def mkCallU (k : Nat) (x : CallT) : CallT := (StrK.mt (k), StrK.mt (k + 1), mks mkArgU nArgU (k + 1 + 1) x.2.2)
def nCallU (x : CallT) : Nat := 2 + szs nArgU x.2.2
theorem nCallU_le (x : CallT) : nCallU x ≤ 8 * (1 + szCallU x) := by
 have h2 := szs_bound nArgU_le x.2.2
 unfold nCallU szCallU
 omega
theorem infoCall : (Tryz.prog.info? 112).map (fun i => (i.zero, i.size, i.bytes)) = some (some (.agg #[.string ByteArray.empty, .string ByteArray.empty, .slice none 0 0]), 3, 56) := by kernel_rfl
def zeroCall : El CallT := ([], [.string ByteArray.empty, .string ByteArray.empty, .slice none 0 0], (ByteArray.empty, ByteArray.empty, []))
set_option maxHeartbeats 4000000 in
set_option maxRecDepth 100000 in
theorem copyCallU (q2 : Bool) (f2 : List Nat) (z0 : ByteArray) (z1 : ByteArray) (A2 : Option Addr) (c2 : Nat) (x2 : List ArgT) (w : World) (h2 : (Rep.slice arg).rep q2 w f2 [.slice A2 x2.length c2] x2) (hl : szCallU (z0, z1, x2) ≤ 100000000) :
  Calls Tryz.prog 193 #[.agg #[.string z0, .string z1, .slice A2 x2.length c2]] w fun e w' => ∃ B2, e = .returned (.agg #[.string z0, .string z1, .slice B2 x2.length x2.length]) ∧ OwnR call w.heap.size w'.heap.size w' [.string z0, .string z1, .slice B2 x2.length x2.length] (z0, z1, x2) ∧ Below w.heap.size w w' := by
 simp only [szCallU] at hl
 have CP0 := Lib.hid (fun W (h : Below w.heap.size w W) => copyArgSU q2 f2 A2 c2 x2 W (Rep.below h2 h) (by omega))
 clear hl h2
 go_enter Tryz.func193, Tryz.ntmps193
 go_wp2_with fail
 refine (Calls.mono (CP0.out _ (by repeat (first | with_reducible exact Below.refl _ _ | with_reducible exact Below.refl _ _ | refine Below.setCell ?_ (by first | omega | (simp; done) | (simp; omega)) _ | refine Below.alloc ?_ (by first | omega | (simp; done) | (simp; omega)) _)))) ?_
 rintro e w0 ⟨D2, rfl, o0, b0⟩
 have B0 : Below w.heap.size w w0 := below_step (by repeat (first | with_reducible exact Below.refl _ _ | with_reducible exact Below.refl _ _ | refine Below.setCell ?_ (by first | omega | (simp; done) | (simp; omega)) _ | refine Below.alloc ?_ (by first | omega | (simp; done) | (simp; omega)) _)) b0
 have hz0 := b0.size
 simp only [World.size_alloc] at hz0 o0
 have VA0 := (((Lvar.new w #[Value.string z0, Value.string z1, Value.slice A2 x2.length c2] 216).alloc (Obj.cells #[Value.string ByteArray.empty, Value.string ByteArray.empty, Value.slice none 0 0] 112)).alloc (Obj.cells #[Value.string z0, Value.string z1, Value.slice none 0 0] 112)).below b0
 have VB0 := ((Lvar.new (w.alloc (Obj.cells #[Value.string z0, Value.string z1, Value.slice A2 x2.length c2] 216)) #[Value.string ByteArray.empty, Value.string ByteArray.empty, Value.slice none 0 0] 112).alloc (Obj.cells #[Value.string z0, Value.string z1, Value.slice none 0 0] 112)).below b0
 have VC0 := (Lvar.new ((w.alloc (Obj.cells #[Value.string z0, Value.string z1, Value.slice A2 x2.length c2] 216)).alloc (Obj.cells #[Value.string ByteArray.empty, Value.string ByteArray.empty, Value.slice none 0 0] 112)) #[Value.string z0, Value.string z1, Value.slice none 0 0] 112).below b0
 simp only [World.size_alloc] at VB0 VC0
 have cA0_0 := VA0.cell 0 _ rfl
 have cA0_1 := VA0.cell 1 _ rfl
 have cA0_2 := VA0.cell 2 _ rfl
 have cB0_0 := VB0.cell 0 _ rfl
 have cB0_1 := VB0.cell 1 _ rfl
 have cB0_2 := VB0.cell 2 _ rfl
 have yB0_0 := VB0.frozen 0
 have yB0_1 := VB0.frozen 1
 have yB0_2 := VB0.frozen 2
 have cC0_0 := VC0.cell 0 _ rfl
 have cC0_1 := VC0.cell 1 _ rfl
 have cC0_2 := VC0.cell 2 _ rfl
 have yC0_0 := VC0.frozen 0
 have yC0_1 := VC0.frozen 1
 have yC0_2 := VC0.frozen 2
 have VA0 := Lib.hid VA0
 have VB0 := Lib.hid VB0
 have VC0 := Lib.hid VC0
 clear b0
 go_wp2_with fail
 obtain ⟨T9, hT9⟩ := (show Lvar _ (w.heap.size + 1) #[Value.string z0, Value.string z1, Value.slice D2 x2.length x2.length] from ((((VB0.out.other (p := ⟨w.heap.size + 1 + 1, 2, none⟩) (by first | omega | (simp; done) | (simp; omega)) (Value.slice D2 x2.length x2.length)).set 0 (Value.string z0)).set 1 (Value.string z1)).set 2 (Value.slice D2 x2.length x2.length)))
 obtain ⟨i9, hi9, _, hs9, _⟩ := info_parts infoCall
 refine bodyPost_ret (results_cell_row rfl _ _ (w.heap.size + 1) T9 #[.string z0, .string z1, .slice D2 x2.length x2.length] _ _ rfl hT9 Tryz.underlying112 rfl (by rw [hi9, Option.map_some, hs9]; rfl)) rfl ?_
 have key : ∀ {u : World}, Mod w.heap.size (w.heap.size + 3) w0 u → OwnR call w.heap.size u.heap.size u [.string z0, .string z1, .slice D2 x2.length x2.length] (z0, z1, x2) ∧ Below w.heap.size w u := fun {u} hm => by
  have hs := hm.size
  have o0 := OwnR.keep o0 hm (Or.inr (by omega))
  exact ⟨(OwnR.prod (mid := w.heap.size) (OwnR.str (by omega) z0) (OwnR.prod (mid := w.heap.size) (OwnR.str (by omega) z1) (o0.wider (by omega) (by omega) (Nat.le_refl _)) (by omega) (by omega)) (by omega) (by omega)), below_mod B0 hm (Nat.le_refl _) B0.size⟩
 refine ⟨D2, rfl, key ?_⟩
 repeat (first | with_reducible exact Mod.refl _ _ _ | refine Mod.trans ?_ (Mod.set _ (by first | omega | (simp; done) | (simp; omega)) (by first | omega | (simp; done) | (simp; omega)) _))
set_option maxHeartbeats 4000000 in
set_option maxRecDepth 100000 in
theorem sizeCallU (q2 : Bool) (f2 : List Nat) (z0 : ByteArray) (z1 : ByteArray) (A2 : Option Addr) (c2 : Nat) (x2 : List ArgT) (L : Nat) (w : World) (h2 : (Rep.slice arg).rep q2 w f2 [.slice A2 x2.length c2] x2) (hL : L ≤ 1000000000) (hs : WfCallU (z0, z1, x2)) :
  Calls Tryz.prog 189 #[.agg #[.string z0, .string z1, .slice A2 x2.length c2], .int .i64 L] w fun e w' => e = .returned (.int .i64 (IntK.leftOf L (szCallU (z0, z1, x2)))) ∧ Below w.heap.size w w' := by
 simp only [WfCallU] at hs
 obtain ⟨hs0, hs1, hs2a, hs2b⟩ := hs
 have B0 := Lib.hid ((Below.refl w.heap.size w).alloc (Nat.le_refl _) (Obj.cells #[Value.string z0, Value.string z1, Value.slice A2 x2.length c2] 216))
 have V0 := Lib.hid (Lvar.new w #[Value.string z0, Value.string z1, Value.slice A2 x2.length c2] 216)
 by_cases g0 : z0.size ≤ L
 ·obtain ⟨m0, hm0⟩ : ∃ m : Nat, m = L - z0.size := ⟨_, rfl⟩
  have hq0 : (L : Int) - (z0.size : Int) = (m0 : Int) := by omega
  have hd0 : decide ((m0 : Int) < 0) = false := decide_eq_false (by omega)
  have HM0 := Lib.hid (show m0 + z0.size = L by omega)
  have hL0 : m0 ≤ 1000000000 := by omega
  clear g0 hm0
  by_cases g1 : z1.size ≤ m0
  ·obtain ⟨m1, hm1⟩ : ∃ m : Nat, m = m0 - z1.size := ⟨_, rfl⟩
   have hq1 : (m0 : Int) - (z1.size : Int) = (m1 : Int) := by omega
   have hd1 : decide ((m1 : Int) < 0) = false := decide_eq_false (by omega)
   have HM1 := Lib.hid (show m1 + z1.size = m0 by omega)
   have hL1 : m1 ≤ 1000000000 := by omega
   clear g1 hm1
   have SZ2 := fun W (h : Below w.heap.size w W) => sizeArgSU q2 f2 A2 c2 m1 x2 W (Rep.below h2 h) (by omega) hs2a hs2b
   unfold IntK.leftOf at SZ2
   by_cases g2 : (x2.length + szs szArgU x2) ≤ m1
   ·obtain ⟨m2, hm2⟩ : ∃ m : Nat, m = m1 - (x2.length + szs szArgU x2) := ⟨_, rfl⟩
    simp only [if_pos g2, show ((m1 : Nat) : Int) - (((x2.length + szs szArgU x2) : Nat) : Int) = (m2 : Int) by omega] at SZ2
    have hd2 : decide ((m2 : Int) < 0) = false := decide_eq_false (by omega)
    have HM2 := Lib.hid (show m2 + (x2.length + szs szArgU x2) = m1 by omega)
    have SZ2 := Lib.hid SZ2
    have hL2 : m2 ≤ 1000000000 := by omega
    clear g2 hm2
    have HR := Lib.hid (show IntK.leftOf L (szCallU (z0, z1, x2)) = (m2 : Int) by simp only [szCallU]; unfold IntK.leftOf; have := HM0.out; have := HM1.out; have := HM2.out; rw [if_pos (by omega)]; omega)
    clear hs2a hs2b h2
    go_enter Tryz.func189, Tryz.ntmps189
    go_wp2_with fail
    refine (Calls.mono (SZ2.out _ B0.out)) ?_
    rintro e w1 ⟨rfl, b1⟩
    have B1 := Lib.hid (below_step B0.out b1)
    have V1 := Lib.hid (V0.out.below b1)
    clear b1
    have v1_0 := V1.out.cell 0 _ rfl
    have v1_1 := V1.out.cell 1 _ rfl
    have v1_2 := V1.out.cell 2 _ rfl
    go_wp2
    go_ret
    exact ⟨by rw [HR.out]; rfl, B1.out⟩
   ·have HM := Lib.hid g2
    simp only [if_neg g2] at SZ2
    have SZ2 := Lib.hid SZ2
    clear g2
    have HR := Lib.hid (show IntK.leftOf L (szCallU (z0, z1, x2)) = -1 by simp only [szCallU]; unfold IntK.leftOf; have := HM0.out; have := HM1.out; have := HM.out; rw [if_neg (by omega)])
    clear hs2a hs2b h2
    go_enter Tryz.func189, Tryz.ntmps189
    go_wp2_with fail
    refine (Calls.mono (SZ2.out _ B0.out)) ?_
    rintro e w1 ⟨rfl, b1⟩
    have B1 := Lib.hid (below_step B0.out b1)
    have V1 := Lib.hid (V0.out.below b1)
    clear b1
    have v1_0 := V1.out.cell 0 _ rfl
    have v1_1 := V1.out.cell 1 _ rfl
    have v1_2 := V1.out.cell 2 _ rfl
    go_wp2
    go_ret
    exact ⟨by rw [HR.out]; rfl, B1.out⟩
  ·have HM := Lib.hid g1
   have hd1 : decide ((m0 : Int) - (z1.size : Int) < 0) = true := decide_eq_true (by omega)
   clear g1
   have HR := Lib.hid (show IntK.leftOf L (szCallU (z0, z1, x2)) = -1 by simp only [szCallU]; unfold IntK.leftOf; have := HM0.out; have := HM.out; rw [if_neg (by omega)])
   clear hs2a hs2b h2
   go_enter Tryz.func189, Tryz.ntmps189
   go_wp2
   go_ret
   exact ⟨by rw [HR.out]; rfl, B0.out⟩
 ·have HM := Lib.hid g0
  have hd0 : decide ((L : Int) - (z0.size : Int) < 0) = true := decide_eq_true (by omega)
  clear g0
  have HR := Lib.hid (show IntK.leftOf L (szCallU (z0, z1, x2)) = -1 by simp only [szCallU]; unfold IntK.leftOf; have := HM.out; rw [if_neg (by omega)])
  clear hs2a hs2b h2
  go_enter Tryz.func189, Tryz.ntmps189
  go_wp2
  go_ret
  exact ⟨by rw [HR.out]; rfl, B0.out⟩
set_option maxHeartbeats 4000000 in
set_option maxRecDepth 100000 in
theorem eqCallU (q2 p2 : Bool) (f2 g2 : List Nat) (z0 : ByteArray) (z1 : ByteArray) (A2 : Option Addr) (c2 : Nat) (x2 : List ArgT) (B2 : Option Addr) (d2 : Nat) (w : World) (h2 : (Rep.slice arg).rep q2 w f2 [.slice A2 x2.length c2] x2) (k2 : (Rep.slice arg).rep p2 w g2 [.slice B2 x2.length d2] x2) (hl : szCallU (z0, z1, x2) ≤ 100000000) :
  Calls Tryz.prog 197 #[.agg #[.string z0, .string z1, .slice A2 x2.length c2], .agg #[.string z0, .string z1, .slice B2 x2.length d2]] w fun e w' => e = .returned (.bool true) ∧ Below w.heap.size w w' := by
 simp only [szCallU] at hl
 have EQ0 := Lib.hid (fun W (h : Below w.heap.size w W) => eqArgSU q2 p2 f2 g2 A2 B2 c2 d2 x2 W (Rep.below h2 h) (Rep.below k2 h) (by omega))
 have BB0 := Lib.hid (((Below.refl w.heap.size w).alloc (Nat.le_refl _) (Obj.cells #[Value.string z0, Value.string z1, Value.slice A2 x2.length c2] 112)).alloc (by simp) (Obj.cells #[Value.string z0, Value.string z1, Value.slice B2 x2.length d2] 112))
 have V0 := Lib.hid ((Lvar.new w #[Value.string z0, Value.string z1, Value.slice A2 x2.length c2] 112).alloc (Obj.cells #[Value.string z0, Value.string z1, Value.slice B2 x2.length d2] 112))
 have U0 := Lib.hid (Lvar.new (w.alloc (Obj.cells #[Value.string z0, Value.string z1, Value.slice A2 x2.length c2] 112)) #[Value.string z0, Value.string z1, Value.slice B2 x2.length d2] 112)
 simp only [World.size_alloc] at U0
 clear hl h2 k2
 go_enter Tryz.func197, Tryz.ntmps197
 go_wp2_with fail
 refine (Calls.mono (EQ0.out _ ?_)) ?_
 ·first | exact BB0.out | exact BB0.out.drew | exact below_drewN BB0.out _
 rintro e w1 ⟨rfl, b1⟩
 have BB1 := Lib.hid (show Below w.heap.size w w1 from by first | exact BB0.out.trans (b1.mono BB0.out.size) | exact BB0.out.drew.trans (b1.mono BB0.out.size) | exact (below_drewN BB0.out _).trans (b1.mono BB0.out.size))
 have V1 := Lib.hid (show Lvar w1 _ _ from by first | exact V0.out.below b1 | exact (V0.out.below (Below.refl _ _).drew).below b1)
 have v1_0 := V1.out.cell 0 _ rfl
 have v1_1 := V1.out.cell 1 _ rfl
 have v1_2 := V1.out.cell 2 _ rfl
 have U1 := Lib.hid (show Lvar w1 _ _ from by first | exact U0.out.below b1 | exact (U0.out.below (Below.refl _ _).drew).below b1)
 have u1_0 := U1.out.cell 0 _ rfl
 have u1_1 := U1.out.cell 1 _ rfl
 have u1_2 := U1.out.cell 2 _ rfl
 clear b1
 go_wp2
 go_ret
 exact ⟨rfl, BB1.out⟩
theorem run_mkCallU (n : Nat) (hn : n ≤ 100000000000) (u : World) : (Instr.makeSlice 44 (.int .i64 (n : Int)) (.int .i64 (n : Int))).run Tryz.prog u =
  .ok (.slice (some ⟨u.heap.size, 0, none⟩) n n) (u.alloc (.cells (madeCells #[.string ByteArray.empty, .string ByteArray.empty, .slice none 0 0] (n * 3)) 112)) := by
 obtain ⟨i0, hi, hz0, hz1, hz2⟩ := info_parts infoCall
 have h := run_make (P := Tryz.prog) u 44 112 i0 (.agg #[.string ByteArray.empty, .string ByteArray.empty, .slice none 0 0]) Tryz.underlying44 hi hz0 .i64 .i64 (n : Int) (n : Int) (by omega) (Int.le_refl _) (by rw [hz2]; omega) (by omega)
 simpa [hz1, Value.cells] using h
set_option maxHeartbeats 4000000 in
set_option maxRecDepth 100000 in
theorem copyCallSU (q : Bool) (fp : List Nat) (A : Option Addr) (c : Nat) (xs : List CallT) (w : World) (hA : (Rep.slice call).rep q w fp [.slice A xs.length c] xs) (hl : xs.length + szs szCallU xs ≤ 100000000) :
  Calls Tryz.prog 151 #[.slice A xs.length c] w (CopiedU call w xs) := by
 have hxl : xs.length ≤ 100000000 := by omega
 have hmk := run_mkCallU xs.length (by omega)
 have HZ := Lib.hid (Filling.made (r := call) (e := 112) (z := zeroCall) (ok := fun b => w.heap.size ≤ b) w (madeCells #[.string ByteArray.empty, .string ByteArray.empty, .slice none 0 0] (xs.length * 3)) (made_gen [.string ByteArray.empty, .string ByteArray.empty, .slice none 0 0] ((ByteArray.empty, ByteArray.empty, []) : CallT) (by simp) xs.length) (Nat.le_refl _))
 have HB0 := Lib.hid ((Below.refl w.heap.size w).alloc (Nat.le_refl _) (Obj.cells (madeCells #[.string ByteArray.empty, .string ByteArray.empty, .slice none 0 0] (xs.length * 3)) 112))
 have HL := Lib.hid hl
 have HA := Lib.hid hA
 clear hl hA
 go_enter Tryz.func151, Tryz.ntmps151
 go_wp2
 go_loopw [4] (fun i wr => ∃ k : Nat, k ≤ xs.length ∧ i = .int .i64 k ∧ Filling call 112 zeroCall (fun b => w.heap.size ≤ b) wr w.heap.size xs.length (xs.take k) ∧ Below w.heap.size w wr) (fun i _ => xs.length - (intOf i).toNat)
 case atStart => exact ⟨0, Nat.zero_le _, rfl, HZ.out, HB0.out⟩
 case round =>
  obtain ⟨k, hk, rfl, hS, hb⟩ := hrel
  have HS := Lib.hid hS
  have HB := Lib.hid hb
  clear hS hb
  by_cases hlt : k < xs.length
  ·obtain ⟨b, o, A2, c2, f2, rfl, hbb, g0, g1, g2, t2⟩ := calls_at (Rep.below HA.out HB.out) hlt
   have htl : (xs.take k).length = k := by rw [List.length_take]; omega
   have hk' : (xs.take k).length < xs.length := by rw [htl]; exact hlt
   obtain ⟨p0, y0⟩ := HS.out.cell (j := 0) (u := .string ByteArray.empty) rfl hk' (by decide) rfl
   have p0 : wr.cell? ⟨w.heap.size, (xs.take k).length * 3, none⟩ = some (.string ByteArray.empty) := p0
   have y0 : wr.frozen? ⟨w.heap.size, (xs.take k).length * 3, none⟩ = false := y0
   obtain ⟨p1, y1⟩ := HS.out.cell (j := 1) (u := .string ByteArray.empty) rfl hk' (by decide) rfl
   have p1 : wr.cell? ⟨w.heap.size, (xs.take k).length * 3 + 1, none⟩ = some (.string ByteArray.empty) := p1
   have y1 : wr.frozen? ⟨w.heap.size, (xs.take k).length * 3 + 1, none⟩ = false := y1
   obtain ⟨p2, y2⟩ := HS.out.cell (j := 2) (u := .slice none 0 0) rfl hk' (by decide) rfl
   have p2 : wr.cell? ⟨w.heap.size, (xs.take k).length * 3 + 2, none⟩ = some (.slice none 0 0) := p2
   have y2 : wr.frozen? ⟨w.heap.size, (xs.take k).length * 3 + 2, none⟩ = false := y2
   rw [htl] at p0 y0 p1 y1 p2 y2
   have hz := HS.out.lt
   have HT := Lib.hid (take_snoc hlt)
   have HTL := Lib.hid htl
   have hs9 : szCallU xs[k] ≤ 100000000 := by
    have := HL.out
    have := szs_mem (sz := szCallU) (List.getElem_mem hlt)
    omega
   clear htl hk'
   generalize xs[k] = x at *
   obtain ⟨z0, z1, x2⟩ := x
   simp only at g0 g1 g2 t2
   have CP := Lib.hid (copyCallU _ f2 z0 z1 A2 c2 x2 wr t2 hs9)
   have hi0 : (0 : Int) ≤ (k : Int) := by omega
   have hi1 : (k : Int) < (xs.length : Int) := by omega
   go_wp2_with fail
   refine (Calls.mono CP.out) ?_
   rintro e w1 ⟨D2, rfl, ⟨_, fG, k1, k2, k3⟩, b1⟩
   have HW := Lib.hid b1
   have hS2 := Filling.snoc (m := wr.heap.size) HS.out rfl (by rw [HTL.out]; exact hlt) b1 (Nat.le_refl _) k1 k2 (fun b hb => (k3 b hb).1) (fun b hb => Nat.le_trans HB.out.size hb)
   rw [HTL.out, ← HT.out] at hS2
   have HS2 := Lib.hid (show Filling call 112 zeroCall (fun b => w.heap.size ≤ b) (((w1.setCell ⟨w.heap.size, k * 3, none⟩ (.string z0)).setCell ⟨w.heap.size, k * 3 + 1, none⟩ (.string z1)).setCell ⟨w.heap.size, k * 3 + 2, none⟩ (.slice D2 x2.length x2.length)) w.heap.size xs.length (xs.take (k + 1)) from hS2)
   have HB2 := Lib.hid ((((HB.out.trans (b1.mono HB.out.size)).setCell (p := ⟨w.heap.size, k * 3, none⟩) (Nat.le_refl _) (.string z0)).setCell (p := ⟨w.heap.size, k * 3 + 1, none⟩) (Nat.le_refl _) (.string z1)).setCell (p := ⟨w.heap.size, k * 3 + 2, none⟩) (Nat.le_refl _) (.slice D2 x2.length x2.length))
   have p0' := (b1.cell (p := ⟨w.heap.size, k * 3, none⟩) hz).trans p0
   have y0' := (b1.frozen (p := ⟨w.heap.size, k * 3, none⟩) hz).trans y0
   have p1' := (b1.cell (p := ⟨w.heap.size, k * 3 + 1, none⟩) hz).trans p1
   have y1' := (b1.frozen (p := ⟨w.heap.size, k * 3 + 1, none⟩) hz).trans y1
   have p2' := (b1.cell (p := ⟨w.heap.size, k * 3 + 2, none⟩) hz).trans p2
   have y2' := (b1.frozen (p := ⟨w.heap.size, k * 3 + 2, none⟩) hz).trans y2
   clear hS2 b1 k1 k2 k3 p0 y0 g0 p1 y1 g1 p2 y2 g2
   go_wp2
   go_roundw
   case rel => exact ⟨k + 1, by omega, by go_num, HS2.out, HB2.out⟩
   case measure => simp [intOf]; omega
  ·obtain rfl : k = xs.length := by omega
   have hS := HS.out
   rw [List.take_length] at hS
   obtain ⟨A2, c2, fp2, h1, h2, h3, h4⟩ := (hS.done (by unfold maxLen; have := HL.out; omega)).rep (by decide)
   injection h1 with h1 _ h5
   subst h1; subst h5
   have HN := Lib.hid (show New (Rep.slice call) w xs wr [.slice (some ⟨w.heap.size, 0, none⟩) xs.length xs.length] from ⟨fp2, h2, h3, h4⟩)
   clear hS HS h2 h3 h4
   go_wp2
   go_ret
   exact ⟨_, rfl, OwnR.of_new HN.out, HB.out⟩

def SzCallU (w : World) (xs : List CallT) (m : Nat) (x i : Value) (wr : World) : Prop :=
 ∃ k l : Nat, k ≤ xs.length ∧ i = .int .i64 k ∧ x = .int .i64 l ∧ l + szs szCallU (xs.take k) + xs.length = m ∧ Below w.heap.size w wr
set_option maxHeartbeats 4000000 in
set_option maxRecDepth 100000 in
theorem sizeCallSU (q : Bool) (fp : List Nat) (A : Option Addr) (c L : Nat) (xs : List CallT) (w : World) (hA : (Rep.slice call).rep q w fp [.slice A xs.length c] xs) (hL : L ≤ 1000000000) (hl : xs.length ≤ 9223372036854775807) (hs : ∀ x ∈ xs, WfCallU x) :
  Calls Tryz.prog 146 #[.slice A xs.length c, .int .i64 L] w fun e w' => e = .returned (.int .i64 (IntK.leftOf L (xs.length + szs szCallU xs))) ∧ Below w.heap.size w w' := by
 have HS := Lib.hid hs
 by_cases h0 : xs.length ≤ L
 ·have hlt0 : decide ((L : Int) - (xs.length : Int) < 0) = false := decide_eq_false (by omega)
  have hx9 : xs.length ≤ 1000000000 := by omega
  clear hs
  go_enter Tryz.func146, Tryz.ntmps146
  go_wp2
  go_loopw [1, 5] (fun x i wr => SzCallU w xs L x i wr) (fun _ i _ => xs.length - (intOf i).toNat)
  case atStart => exact ⟨0, L - xs.length, Nat.zero_le _, rfl, congrArg (Value.int .i64) (by omega), by simp [szs]; omega, Below.refl _ _⟩
  case round =>
   obtain ⟨k, l, hk, rfl, rfl, hsum, hb⟩ := hrel
   by_cases hlt : k < xs.length
   ·obtain ⟨b, o, A2, c2, f2, rfl, hbb, g0, g1, g2, t2⟩ := calls_at (Rep.below hA hb) hlt
    have hxs := HS.out _ (List.getElem_mem hlt)
    have hts := szs_step (sz := szCallU) hlt
    have hle := szs_take (sz := szCallU) xs (k + 1)
    generalize xs[k] = x at *
    obtain ⟨z0, z1, x2⟩ := x
    simp only at g0 g1 g2 t2
    obtain ⟨s0, hs0⟩ : ∃ s0 : Nat, s0 = szCallU (z0, z1, x2) := ⟨_, rfl⟩
    have SZ := Lib.hid (sizeCallU _ f2 z0 z1 A2 c2 x2 l wr t2 (by omega) hxs)
    rw [← hs0] at SZ hts
    have HT := Lib.hid hts
    have HE := Lib.hid hle
    have HM := Lib.hid hsum
    unfold IntK.leftOf at SZ
    clear hts hle hsum hxs hs0
    by_cases hc : s0 ≤ l
    ·rw [if_pos hc] at SZ
     obtain ⟨l', rfl⟩ : ∃ l', l = s0 + l' := ⟨l - s0, by omega⟩
     rw [show ((s0 + l' : Nat) : Int) - ((s0 : Nat) : Int) = (l' : Int) by omega] at SZ
     have hl0 : decide ((l' : Int) < 0) = false := decide_eq_false (by omega)
     clear hc
     go_wp2_with fail
     refine (Calls.mono SZ.out) ?_
     rintro e w1 ⟨rfl, b1⟩
     have B1 := Lib.hid (hb.trans (b1.mono hb.size))
     clear b1
     go_wp2
     go_roundw
     case rel => exact ⟨k + 1, l', by omega, by go_num, rfl, by have := HM.out; have := HT.out; omega, B1.out⟩
     case measure => simp [intOf]; omega
    ·rw [if_neg hc] at SZ
     have HR := Lib.hid (show IntK.leftOf L (xs.length + szs szCallU xs) = -1 from if_neg (by have := HM.out; have := HT.out; have := HE.out; omega))
     clear hc
     go_wp2_with fail
     refine (Calls.mono SZ.out) ?_
     rintro e w1 ⟨rfl, b1⟩
     have B1 := Lib.hid (hb.trans (b1.mono hb.size))
     clear b1
     go_wp2
     go_ret
     exact ⟨by rw [HR.out]; rfl, B1.out⟩
   ·obtain rfl : k = xs.length := by omega
    rw [List.take_length] at hsum
    have HR := Lib.hid (show IntK.leftOf L (xs.length + szs szCallU xs) = (l : Int) by
     unfold IntK.leftOf
     rw [if_pos (by omega)]
     omega)
    clear hsum
    go_wp2
    go_ret
    exact ⟨by rw [HR.out]; rfl, hb⟩
 ·have HR := Lib.hid (show IntK.leftOf L (xs.length + szs szCallU xs) = -1 from if_neg (by omega))
  have hlt0 : decide ((L : Int) - (xs.length : Int) < 0) = true := decide_eq_true (by omega)
  clear hs
  go_enter Tryz.func146, Tryz.ntmps146
  go_wp2
  go_ret
  exact ⟨by rw [HR.out]; rfl, Below.refl _ _⟩

set_option maxHeartbeats 4000000 in
set_option maxRecDepth 100000 in
theorem eqCallSU (q q2 : Bool) (fp gp : List Nat) (A B : Option Addr) (c d : Nat) (xs : List CallT) (w : World) (hA : (Rep.slice call).rep q w fp [.slice A xs.length c] xs) (hB : (Rep.slice call).rep q2 w gp [.slice B xs.length d] xs) (hl : xs.length + szs szCallU xs ≤ 100000000) :
  Calls Tryz.prog 156 #[.slice A xs.length c, .slice B xs.length d] w fun e w' => e = .returned (.bool true) ∧ Below w.heap.size w w' := by
 have HL := Lib.hid hl
 clear hl
 have hxl : xs.length ≤ 1000000000 := by have := HL.out; omega
 go_enter Tryz.func156, Tryz.ntmps156
 go_wp2
 go_loopw [5] (fun i wr => ∃ k : Nat, k ≤ xs.length ∧ i = .int .i64 k ∧ Below w.heap.size w wr) (fun i _ => xs.length - (intOf i).toNat)
 case atStart => exact ⟨0, Nat.zero_le _, rfl, Below.refl _ _⟩
 case round =>
  obtain ⟨k, hk, rfl, hb⟩ := hrel
  by_cases hlt : k < xs.length
  ·obtain ⟨b, o, A2, c2, f2, rfl, hbb, g0, g1, g2, t2⟩ := calls_at (Rep.below hA hb) hlt
   obtain ⟨b', o', A2', c2', f2', rfl, hbb', g0', g1', g2', t2'⟩ := calls_at (Rep.below hB hb) hlt
   have hs9 : szCallU xs[k] ≤ 100000000 := by
    have := HL.out
    have := szs_mem (sz := szCallU) (List.getElem_mem hlt)
    omega
   generalize xs[k] = x at *
   obtain ⟨z0, z1, x2⟩ := x
   simp only at g0 g0' g1 g1' g2 g2' t2 t2'
   have hd : Below wr.heap.size wr wr.drew := (Below.refl _ _).drew
   have EQ := Lib.hid (eqCallU _ _ f2 f2' z0 z1 A2 c2 x2 A2' c2' wr.drew (Rep.below t2 hd) (Rep.below t2' hd) hs9)
   have hi0 : (0 : Int) ≤ (k : Int) := by omega
   have hi1 : (k : Int) < (xs.length : Int) := by omega
   clear hd
   go_wp2_with fail
   go_region_law (first
    | (go_simp; go_at_call 197; refine (Calls.mono EQ.out) ?_; rintro e w1 ⟨rfl, b1⟩))
   all_goals
    have B1' := Lib.hid (hb.trans (((Below.refl wr.heap.size wr).drew.trans b1).mono hb.size))
    clear b1
    go_wp2
    go_roundw
    case rel => exact ⟨k + 1, by omega, by go_num, B1'.out⟩
    case measure => simp [intOf]; omega
  ·go_wp2
   go_ret
   exact ⟨rfl, hb⟩

set_option maxHeartbeats 4000000 in
set_option maxRecDepth 100000 in
theorem markCallSU (fp : List Nat) (A : Option Addr) (c k0 : Nat) (xs : List CallT) (w : World) (hA : (Rep.slice call).rep true w fp [.slice A xs.length c] xs) (hn : fp.Nodup) (h1 : 1 ≤ k0) (hk0 : k0 + 8 * (xs.length + szs szCallU xs) ≤ 1000000000) :
  Calls Tryz.prog 114 #[.slice A xs.length c, .int .i64 k0] w (MarkedU call mkCallU nCallU fp w A c k0 xs) := by
 by_cases h0 : xs = []
 ·subst h0
  have F := Lib.hid (show MarkedU call mkCallU nCallU fp w A c k0 [] (.returned (.int .i64 k0)) w from ⟨by simp [szs], hA, ModF.refl _ _⟩)
  clear hA
  go_enter Tryz.func114, Tryz.ntmps114
  go_wp2
  refine wp_loop_rounds 1 ?_
  rw [rounds_succ]
  go_wp2
  go_ret
  exact F.out
 ·have HK := Lib.hid hk0
  have hxl : xs.length ≤ 1000000000 := by omega
  have HK1 := Lib.hid h1
  have HNE := Lib.hid h0
  have HC := Lib.hid (show xs.length ≤ c by
   obtain ⟨_, _, e, h, _⟩ := hA
   injection e with e _
   injection e with _ _ e
   omega)
  have M0 := Lib.hid (marking_zero (mk := mkCallU) (sz := nCallU) k0 hA hn h0)
  clear hA hk0 h0 hn h1
  go_enter Tryz.func114, Tryz.ntmps114
  go_wp2
  go_loopw [1, 5] (fun x i wr => Marking call mkCallU nCallU fp w xs A k0 x i wr) (fun _ i _ => xs.length - (intOf i).toNat)
  case atStart => exact M0.out
  case round =>
   obtain ⟨k, l, rfl, rfl, hk, hl0⟩ : ∃ k l : Nat, u5 = .int .i64 k ∧ u1 = .int .i64 l ∧ k ≤ xs.length ∧ l = k0 + szs nCallU (xs.take k) := by
    obtain ⟨k, l, _, _, _, _, h1, h2, h3, h4, _⟩ := hrel
    exact ⟨k, l, h2, h3, h1, h4⟩
   by_cases hlt : k < xs.length
   ·obtain ⟨b, o, f, cs, rfl, hbb, hre, hnd, hbf, hcc, hff, hnext⟩ := marking_at hrel hlt
    have hl9 : 1 ≤ l ∧ l + 8 * (1 + szCallU xs[k]) ≤ 1000000000 := by
     have h2 := szs_bound nCallU_le (xs.take k)
     have h3 := szs_step (sz := szCallU) hlt
     have h4 := szs_take (sz := szCallU) xs (k + 1)
     have h5 : (xs.take k).length = k := by rw [List.length_take]; omega
     have := HK.out
     have := HK1.out
     omega
    clear hl0
    have HNX := Lib.hid hnext
    have HBF := Lib.hid hbf
    obtain ⟨A2, c2, f2, e9, rfl, r2⟩ := call_open hre
    have e9 := e9.symm
    subst e9
    have g0 := hcc 0 (by decide)
    have g1 := hcc 1 (by decide)
    have g2 := hcc 2 (by decide)
    simp only [show call.n = 3 from rfl, Nat.add_zero, List.getElem?_cons_zero, List.getElem?_cons_succ] at g0 g1 g2
    have hff : ∀ i, i < 3 → wr.frozen? ⟨b, o + k * 3 + i, none⟩ = false := hff
    have HFF := Lib.hid hff
    clear hnext hcc hff hre hrel
    generalize xs[k] = x at *
    obtain ⟨z0, z1, x2⟩ := x
    simp only [szCallU] at hl9
    obtain ⟨hl1, hl9⟩ := hl9
    simp only at g0 g1 g2 r2
    have hb2 := szs_bound nArgU_le x2
    have hn2 := hnd
    have nb2 := hbf
    clear hnd hbf
    have E0 := Lib.hid (Elem.start (fp := f2) (wr := wr) (b := b) (p := o + k * 3) (cs := [.string z0, .string z1, .slice A2 x2.length c2]) hbb (fun i v hi => by
     match i, hi with
     | 0, hi => injection hi with hi; subst hi; exact g0
     | 1, hi => injection hi with hi; subst hi; exact g1
     | 2, hi => injection hi with hi; subst hi; exact g2
     | j + 3, hi => simp at hi))
    have R0_2 := Lib.hid r2
    clear r2 hbb g0 g1 g2
    have MT0 := fun W => StrK.markText (l) (by omega) (by omega) W
    have MT0 := Lib.hid MT0
    have MT1 := fun W => StrK.markText (l + 1) (by omega) (by omega) W
    rw [show ((l + 1 : Nat) : Int) = (l : Int) + 1 by omega] at MT1
    have MT1 := Lib.hid MT1
    have MK2 := fun W (h : (Rep.slice arg).rep true W f2 [.slice A2 x2.length c2] x2) => markArgSU f2 A2 c2 (l + 1 + 1) x2 W h hn2 (by omega) (by omega)
    obtain ⟨m2, hm2⟩ : ∃ m : Nat, m = l + 1 + 1 + szs nArgU x2 := ⟨_, rfl⟩
    unfold MarkedU at MK2
    simp only [← hm2] at MK2
    rw [show ((l + 1 + 1 : Nat) : Int) = (l : Int) + 1 + 1 by omega] at MK2
    have MK2 := Lib.hid MK2
    have HNAT := Lib.hid (show ((m2 : Nat) : Int) = (m2 : Int) by omega)
    have HM2 := Lib.hid hm2
    have hr2 : 0 ≤ m2 ∧ m2 ≤ 1000000000 := by omega
    have hr : l ≤ 1000000000 := by omega
    clear hl1 hl9 hm2 hb2
    have lt_0 := E0.out.lt
    have g0_0 := E0.out.cell 0 _ rfl
    have y0_0 := E0.out.free HFF.out (i := 0) (by simp)
    have g1_0 := E0.out.cell 1 _ rfl
    have y1_0 := E0.out.free HFF.out (i := 1) (by simp)
    have g2_0 := E0.out.cell 2 _ rfl
    have y2_0 := E0.out.free HFF.out (i := 2) (by simp)
    simp only [Nat.add_zero] at g0_0 y0_0
    go_wp2_with fail
    refine (Calls.mono (MT0.out _)) ?_
    rintro e w1 ⟨rfl, d1⟩
    have E1 := Lib.hid (E0.out.below d1)
    have R1_2 := Lib.hid (Rep.below R0_2.out d1)
    clear d1 E0 R0_2
    clear lt_0 g0_0 y0_0 g1_0 y1_0 g2_0 y2_0
    have lt_1 := E1.out.lt
    have g0_1 := E1.out.cell 0 _ rfl
    have y0_1 := E1.out.free HFF.out (i := 0) (by simp)
    have g1_1 := E1.out.cell 1 _ rfl
    have y1_1 := E1.out.free HFF.out (i := 1) (by simp)
    have g2_1 := E1.out.cell 2 _ rfl
    have y2_1 := E1.out.free HFF.out (i := 2) (by simp)
    simp only [Nat.add_zero] at g0_1 y0_1
    have E2 := Lib.hid (show Elem b (o + k * 3) (f2) wr (w1.setCell ⟨b, o + k * 3, none⟩ (.string (StrK.mt (l)))) [.string (StrK.mt (l)), .string z1, .slice A2 x2.length c2] from E1.out.set (i := 0) (by simp) (.string (StrK.mt (l))))
    have R2_2 := Lib.hid (Rep.keepF R1_2.out (ModF.set w1 (p := ⟨b, o + k * 3, none⟩) (List.mem_singleton.2 rfl) (.string (StrK.mt (l)))) (fun x hx h9 => by rw [List.mem_singleton.1 h9] at hx; exact nb2 hx))
    clear E1 R1_2
    go_wp2_with fail
    refine (Calls.mono (MT1.out _)) ?_
    rintro e w2 ⟨rfl, d2⟩
    have E3 := Lib.hid (E2.out.below d2)
    have R3_2 := Lib.hid (Rep.below R2_2.out d2)
    clear d2 E2 R2_2
    clear lt_1 g0_1 y0_1 g1_1 y1_1 g2_1 y2_1
    have lt_3 := E3.out.lt
    have g0_3 := E3.out.cell 0 _ rfl
    have y0_3 := E3.out.free HFF.out (i := 0) (by simp)
    have g1_3 := E3.out.cell 1 _ rfl
    have y1_3 := E3.out.free HFF.out (i := 1) (by simp)
    have g2_3 := E3.out.cell 2 _ rfl
    have y2_3 := E3.out.free HFF.out (i := 2) (by simp)
    simp only [Nat.add_zero] at g0_3 y0_3
    have E4 := Lib.hid (show Elem b (o + k * 3) (f2) wr (w2.setCell ⟨b, o + k * 3 + 1, none⟩ (.string (StrK.mt (l + 1)))) [.string (StrK.mt (l)), .string (StrK.mt (l + 1)), .slice A2 x2.length c2] from E3.out.set (i := 1) (by simp) (.string (StrK.mt (l + 1))))
    have R4_2 := Lib.hid (Rep.keepF R3_2.out (ModF.set w2 (p := ⟨b, o + k * 3 + 1, none⟩) (List.mem_singleton.2 rfl) (.string (StrK.mt (l + 1)))) (fun x hx h9 => by rw [List.mem_singleton.1 h9] at hx; exact nb2 hx))
    clear E3 R3_2
    go_wp2_with fail
    refine (Calls.mono (MK2.out _ R4_2.out)) ?_
    rintro e w3 ⟨rfl, r2, d3⟩
    have E5 := Lib.hid (E4.out.mod d3 nb2 (fun x hx => by simp [hx]))
    have R5_2 := Lib.hid r2
    clear d3 r2 E4 R4_2
    clear lt_3 g0_3 y0_3 g1_3 y1_3 g2_3 y2_3
    have lt_5 := E5.out.lt
    have g0_5 := E5.out.cell 0 _ rfl
    have y0_5 := E5.out.free HFF.out (i := 0) (by simp)
    have g1_5 := E5.out.cell 1 _ rfl
    have y1_5 := E5.out.free HFF.out (i := 1) (by simp)
    have g2_5 := E5.out.cell 2 _ rfl
    have y2_5 := E5.out.free HFF.out (i := 2) (by simp)
    simp only [Nat.add_zero] at g0_5 y0_5
    have HN : Marking call mkCallU nCallU fp w xs (some ⟨b, o, none⟩) k0 (.int .i64 ((m2 : Int))) (.int .i64 ((k : Int) + 1)) w3 := by
     have hE := E5.out
     have hnat := HNAT.out
     have hm2 := HM2.out
     have hR2 := R5_2.out
     have hN := HNX.out w3 [.string (StrK.mt (l)), .string (StrK.mt (l + 1)), .slice A2 x2.length c2] (by
      simp only [mkCallU]
      have t2 := hR2
      rw [← mks_len (mk := mkArgU) (sz := nArgU) x2 (l + 1 + 1)] at t2
      have hh := call_close (q := true) (w := w3) (StrK.mt (l)) (StrK.mt (l + 1)) t2
      simp only [mks_len] at hh
      subst hm2
      exact hh) hE.modF (fun j hj => hE.other (o + j) (by have hj : j < k * 3 ∨ k * 3 + 3 ≤ j := hj; simp only [List.length_cons, List.length_nil]; omega)) (fun i hi => by
      have hi : i < 3 := hi
      match i, hi with
      | 0, _ => exact hE.cell 0 _ rfl
      | 1, _ => exact hE.cell 1 _ rfl
      | 2, _ => exact hE.cell 2 _ rfl
      | j + 3, hi => omega) (fun j => hE.frozen (o + j))
     rw [show ((l + nCallU (z0, z1, x2) : Nat) : Int) = (m2 : Int) by simp only [nCallU]; omega, show ((k + 1 : Nat) : Int) = (k : Int) + 1 by omega] at hN
     exact hN
    have HN := Lib.hid HN
    clear E5 R5_2 HNX
    go_wp2
    go_roundw
    case rel => exact HN.out
    case measure => simp [intOf]; omega
   ·obtain rfl : k = xs.length := by omega
    obtain ⟨h1, h2, h3⟩ := marking_end HC.out HNE.out hrel
    have F := Lib.hid (show MarkedU call mkCallU nCallU fp w A c k0 xs (.returned (.int .i64 l)) wr from ⟨by rw [h3]; simp, h1, h2⟩)
    clear h1 h2 h3 hrel
    go_wp2
    go_ret
    exact F.out
end Mem
end Go.Proofs.YtbbllkhmenpnlaaGreat
