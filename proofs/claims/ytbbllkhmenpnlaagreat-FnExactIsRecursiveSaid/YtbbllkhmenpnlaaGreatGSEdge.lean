import Derived.Test.YtbbllkhmenpnlaaGreatRepUni
import Derived.Deep.RegionLaw
import Derived.Deep.RegionHeld3
/-
  The laws' helpers on Edge: copies, sizes, comparison, marks (made by tools/ukit.py).
-/
namespace Go.Proofs.YtbbllkhmenpnlaaGreat
open Go.RowKit
namespace Mem
open RowK

abbrev EdgeT := Int × Int
def edge : Rep EdgeT := Rep.prod Rep.int Rep.int
theorem edge_open {q : Bool} {w : World} {fp : List Nat} {cs : List Value} {p : EdgeT} (h : edge.rep q w fp cs p) : fp = [] ∧ cs = [.int .i64 p.1, .int .i64 p.2] := by
 obtain ⟨g0, g0', d0, d0', rfl, rfl, k0, h'⟩ := h
 obtain ⟨rfl, rfl⟩ := k0
 obtain ⟨rfl, rfl⟩ := h'
 exact ⟨by simp, rfl⟩
theorem edge_close {q : Bool} {w : World}  (z0 : Int) (z1 : Int)  : edge.rep q w ([]) [.int .i64 z0, .int .i64 z1] (z0, z1) := by
 have e : ([] : List Nat) = [] ++ ([]) := by simp
 rw [e]
 exact (show edge.rep q w ([] ++ ([])) ([.int .i64 z0] ++ ([.int .i64 z1])) _ from ⟨_, _, _, _, rfl, rfl, ⟨rfl, rfl⟩, ⟨rfl, rfl⟩⟩)
theorem edges_at {q : Bool} {w : World} {fp : List Nat} {A : Option Addr} {n c : Nat} {xs : List EdgeT} (h : (Rep.slice edge).rep q w fp [.slice A n c] xs) {k : Nat} (hk : k < xs.length) :
  ∃ b o, A = some ⟨b, o, none⟩ ∧ b < w.heap.size ∧ w.cell? ⟨b, o + k * 2, none⟩ = some (.int .i64 xs[k].1) ∧ w.cell? ⟨b, o + k * 2 + 1, none⟩ = some (.int .i64 xs[k].2) := by
 obtain ⟨b, o, f, cs, rfl, hb, hr, hc, _⟩ := slice_at h hk
 obtain ⟨_, rfl⟩ := edge_open hr
 have hn : edge.n = 2 := rfl
 rw [hn] at hc
 exact ⟨b, o, rfl, hb, hc 0 (by omega), hc 1 (by omega)⟩
theorem ArgS.edge_at {w : World} {A : Option Addr} {n c : Nat} {xs : List EdgeT} (h : ArgS edge w A n c xs) {k : Nat} (hk : k < xs.length) :
  ∃ b o, A = some ⟨b, o, none⟩ ∧ b < w.heap.size ∧ w.cell? ⟨b, o + k * 2, none⟩ = some (.int .i64 xs[k].1) ∧ w.cell? ⟨b, o + k * 2 + 1, none⟩ = some (.int .i64 xs[k].2) := by
 obtain ⟨q, fp, h⟩ := h
 obtain ⟨b, o, rfl, hb, h0, h1⟩ := edges_at h hk
 exact ⟨b, o, rfl, hb, h0, h1⟩
def szEdgeU (_x : EdgeT) : Nat := 0
def mkEdgeU (k : Nat) (_x : EdgeT) : EdgeT := (((k : Nat) : Int), ((k + 1 : Nat) : Int))
def nEdgeU (_x : EdgeT) : Nat := 2
theorem nEdgeU_le (x : EdgeT) : nEdgeU x ≤ 8 * (1 + szEdgeU x) := by
 unfold nEdgeU szEdgeU
 omega
theorem infoEdge : (Tryz.prog.info? 50).map (fun i => (i.zero, i.size, i.bytes)) = some (some (.agg #[.int .i64 0, .int .i64 0]), 2, 16) := by kernel_rfl
set_option maxHeartbeats 4000000 in
set_option maxRecDepth 100000 in
theorem eqEdgeU (z0 : Int) (z1 : Int)  (w : World)   (_hl : szEdgeU (z0, z1) ≤ 100000000) :
  Calls Tryz.prog 70 #[.agg #[.int .i64 z0, .int .i64 z1], .agg #[.int .i64 z0, .int .i64 z1]] w fun e w' => e = .returned (.bool true) ∧ Below w.heap.size w w' := by
 have BB0 := Lib.hid (((Below.refl w.heap.size w).alloc (Nat.le_refl _) (Obj.cells #[Value.int .i64 z0, Value.int .i64 z1] 50)).alloc (by simp) (Obj.cells #[Value.int .i64 z0, Value.int .i64 z1] 50))
 go_enter Tryz.func70, Tryz.ntmps70
 go_wp2
 go_ret
 exact ⟨rfl, BB0.out⟩
set_option maxHeartbeats 4000000 in
set_option maxRecDepth 100000 in
theorem eqEdgeSU (q q2 : Bool) (fp gp : List Nat) (A B : Option Addr) (c d : Nat) (xs : List EdgeT) (w : World) (hA : (Rep.slice edge).rep q w fp [.slice A xs.length c] xs) (hB : (Rep.slice edge).rep q2 w gp [.slice B xs.length d] xs) (hl : xs.length + szs szEdgeU xs ≤ 100000000) :
  Calls Tryz.prog 29 #[.slice A xs.length c, .slice B xs.length d] w fun e w' => e = .returned (.bool true) ∧ Below w.heap.size w w' := by
 have HL := Lib.hid hl
 clear hl
 have hxl : xs.length ≤ 1000000000 := by have := HL.out; omega
 go_enter Tryz.func29, Tryz.ntmps29
 go_wp2
 go_loopw [5] (fun i wr => ∃ k : Nat, k ≤ xs.length ∧ i = .int .i64 k ∧ Below w.heap.size w wr) (fun i _ => xs.length - (intOf i).toNat)
 case atStart => exact ⟨0, Nat.zero_le _, rfl, Below.refl _ _⟩
 case round =>
  obtain ⟨k, hk, rfl, hb⟩ := hrel
  by_cases hlt : k < xs.length
  ·obtain ⟨b, o, rfl, hbb, g0, g1⟩ := edges_at (Rep.below hA hb) hlt
   obtain ⟨b', o', rfl, hbb', g0', g1'⟩ := edges_at (Rep.below hB hb) hlt
   have hs9 : szEdgeU xs[k] ≤ 100000000 := by
    have := HL.out
    have := szs_mem (sz := szEdgeU) (List.getElem_mem hlt)
    omega
   generalize xs[k] = x at *
   obtain ⟨z0, z1⟩ := x
   simp only at g0 g0' g1 g1'
   have hd : Below wr.heap.size wr wr.drew := (Below.refl _ _).drew
   have EQ := Lib.hid (eqEdgeU z0 z1  wr.drew   hs9)
   have hi0 : (0 : Int) ≤ (k : Int) := by omega
   have hi1 : (k : Int) < (xs.length : Int) := by omega
   clear hd
   go_wp2_with fail
   go_region_law (first
    | (go_simp; go_at_call 70; refine (Calls.mono EQ.out) ?_; rintro e w1 ⟨rfl, b1⟩))
   all_goals
    have B1' := Lib.hid (hb.trans (((Below.refl wr.heap.size wr).drew.trans b1).mono hb.size))
    clear b1
    go_wp2
    go_roundw
    case rel => exact ⟨k + 1, by omega, by go_num, B1'.out⟩
    case measure => simp [intOf]; omega
  ·go_wp2
   go_ret
   exact ⟨rfl, hb⟩

def HeldEdgeU (w : World) (xs : List EdgeT) (k0 : Nat) (x i : Value) (wr : World) : Prop :=
 ∃ k l : Nat, k ≤ xs.length ∧ i = .int .i64 k ∧ x = .int .i64 l ∧ l = k0 + szs nEdgeU (xs.take k) ∧ Below w.heap.size w wr
set_option maxHeartbeats 4000000 in
set_option maxRecDepth 100000 in
theorem heldEdgeSU (q : Bool) (fp : List Nat) (A : Option Addr) (c k0 : Nat) (xs : List EdgeT) (w : World) (hA : (Rep.slice edge).rep q w fp [.slice A xs.length c] (mks mkEdgeU nEdgeU k0 xs)) (h1 : 1 ≤ k0) (hk0 : k0 + 8 * (xs.length + szs szEdgeU xs) ≤ 1000000000) :
  Calls Tryz.prog 33 #[.slice A xs.length c, .int .i64 k0] w fun e w' => e = .returned (.int .i64 ((k0 + szs nEdgeU xs : Nat) : Int)) ∧ Below w.heap.size w w' := by
 have hxl : xs.length ≤ 1000000000 := by omega
 have HK := Lib.hid hk0
 have HK1 := Lib.hid h1
 have HA := Lib.hid hA
 clear hA hk0 h1
 go_enter Tryz.func33, Tryz.ntmps33
 go_wp2
 go_loopw [1, 5] (fun x i wr => HeldEdgeU w xs k0 x i wr) (fun _ i _ => xs.length - (intOf i).toNat)
 case atStart => exact ⟨0, k0, Nat.zero_le _, rfl, rfl, by simp [szs], Below.refl _ _⟩
 case round =>
  obtain ⟨k, l, hk, rfl, rfl, hsum, hb⟩ := hrel
  by_cases hlt : k < xs.length
  ·have hlm : k < (mks mkEdgeU nEdgeU k0 xs).length := by rw [mks_len]; exact hlt
   obtain ⟨b, o, rfl, hbb, g0, g1⟩ := edges_at (Rep.below HA.out hb) hlm
   simp only [mks_at k0 xs hlt, ← hsum, mkEdgeU] at g0 g1
   have hl9 : 1 ≤ l ∧ l + 8 * (1 + szEdgeU xs[k]) ≤ 1000000000 := by
    have h2 := szs_bound nEdgeU_le (xs.take k)
    have h3 := szs_step (sz := szEdgeU) hlt
    have h4 := szs_take (sz := szEdgeU) xs (k + 1)
    have h5 : (xs.take k).length = k := by rw [List.length_take]; omega
    have := HK.out
    have := HK1.out
    omega
   have h2 := szs_step (sz := nEdgeU) hlt
   generalize xs[k] = x at *
   obtain ⟨z0, z1⟩ := x
   simp only [szEdgeU] at hl9
   obtain ⟨hl1, hl9⟩ := hl9
   simp only [nEdgeU] at h2 g0 g1
   have H2 := Lib.hid h2
   have HS := Lib.hid hsum
   have hi0 : (0 : Int) ≤ (k : Int) := by omega
   have hi1 : (k : Int) < (xs.length : Int) := by omega
   clear h2 hsum
   rw [show ((l + 1 : Nat) : Int) = (l : Int) + 1 by omega] at g1
   have HE := Lib.hid (show l + 2 = l + 1 + 1 by omega)
   have HZ := Lib.hid (show ((l + 1 + 1 : Nat) : Int) = (l : Int) + 1 + 1 by omega)
   have D0 := Lib.hid (Below.refl wr.heap.size wr)
   have HG := Lib.hid (show wr.cell? ⟨b, o + k * 2, none⟩ = some (.int .i64 ((l : Int))) ∧ wr.cell? ⟨b, o + k * 2 + 1, none⟩ = some (.int .i64 ((l : Int) + 1)) from ⟨g0, g1⟩)
   have hlb : l ≤ 1000000000 := by omega
   clear hl9
   have HB := Lib.hid (hb.trans (D0.out.mono hb.size))
   go_wp2
   go_roundw
   case rel => exact ⟨k + 1, l + 1 + 1, by omega, by go_num, congrArg (Value.int .i64) (by have := HZ.out; omega), by have := HS.out; have := H2.out; have := HE.out; omega, HB.out⟩
   case measure => simp [intOf]; omega
  ·obtain rfl : k = xs.length := by omega
   rw [List.take_length] at hsum
   have HR := Lib.hid (show (l : Int) = ((k0 + szs nEdgeU xs : Nat) : Int) by omega)
   clear hsum
   go_wp2
   go_ret
   exact ⟨by rw [← HR.out]; rfl, hb⟩
set_option maxHeartbeats 4000000 in
set_option maxRecDepth 100000 in
theorem markEdgeSU (fp : List Nat) (A : Option Addr) (c k0 : Nat) (xs : List EdgeT) (w : World) (hA : (Rep.slice edge).rep true w fp [.slice A xs.length c] xs) (hn : fp.Nodup) (h1 : 1 ≤ k0) (hk0 : k0 + 8 * (xs.length + szs szEdgeU xs) ≤ 1000000000) :
  Calls Tryz.prog 32 #[.slice A xs.length c, .int .i64 k0] w (MarkedU edge mkEdgeU nEdgeU fp w A c k0 xs) := by
 by_cases h0 : xs = []
 ·subst h0
  have F := Lib.hid (show MarkedU edge mkEdgeU nEdgeU fp w A c k0 [] (.returned (.int .i64 k0)) w from ⟨by simp [szs], hA, ModF.refl _ _⟩)
  clear hA
  go_enter Tryz.func32, Tryz.ntmps32
  go_wp2
  refine wp_loop_rounds 1 ?_
  rw [rounds_succ]
  go_wp2
  go_ret
  exact F.out
 ·have HK := Lib.hid hk0
  have hxl : xs.length ≤ 1000000000 := by omega
  have HK1 := Lib.hid h1
  have HNE := Lib.hid h0
  have HC := Lib.hid (show xs.length ≤ c by
   obtain ⟨_, _, e, h, _⟩ := hA
   injection e with e _
   injection e with _ _ e
   omega)
  have M0 := Lib.hid (marking_zero (mk := mkEdgeU) (sz := nEdgeU) k0 hA hn h0)
  clear hA hk0 h0 hn h1
  go_enter Tryz.func32, Tryz.ntmps32
  go_wp2
  go_loopw [1, 5] (fun x i wr => Marking edge mkEdgeU nEdgeU fp w xs A k0 x i wr) (fun _ i _ => xs.length - (intOf i).toNat)
  case atStart => exact M0.out
  case round =>
   obtain ⟨k, l, rfl, rfl, hk, hl0⟩ : ∃ k l : Nat, u5 = .int .i64 k ∧ u1 = .int .i64 l ∧ k ≤ xs.length ∧ l = k0 + szs nEdgeU (xs.take k) := by
    obtain ⟨k, l, _, _, _, _, h1, h2, h3, h4, _⟩ := hrel
    exact ⟨k, l, h2, h3, h1, h4⟩
   by_cases hlt : k < xs.length
   ·obtain ⟨b, o, f, cs, rfl, hbb, hre, hnd, hbf, hcc, hff, hnext⟩ := marking_at hrel hlt
    have hl9 : 1 ≤ l ∧ l + 8 * (1 + szEdgeU xs[k]) ≤ 1000000000 := by
     have h2 := szs_bound nEdgeU_le (xs.take k)
     have h3 := szs_step (sz := szEdgeU) hlt
     have h4 := szs_take (sz := szEdgeU) xs (k + 1)
     have h5 : (xs.take k).length = k := by rw [List.length_take]; omega
     have := HK.out
     have := HK1.out
     omega
    clear hl0
    have HNX := Lib.hid hnext
    have HBF := Lib.hid hbf
    obtain ⟨e9, rfl⟩ := edge_open hre
    have e9 := e9.symm
    subst e9
    have g0 := hcc 0 (by decide)
    have g1 := hcc 1 (by decide)
    simp only [show edge.n = 2 from rfl, Nat.add_zero, List.getElem?_cons_zero, List.getElem?_cons_succ] at g0 g1
    have hff : ∀ i, i < 2 → wr.frozen? ⟨b, o + k * 2 + i, none⟩ = false := hff
    have HFF := Lib.hid hff
    clear hnext hcc hff hre hrel
    generalize xs[k] = x at *
    obtain ⟨z0, z1⟩ := x
    simp only [szEdgeU] at hl9
    obtain ⟨hl1, hl9⟩ := hl9
    simp only at g0 g1
    have E0 := Lib.hid (Elem.start (fp := []) (wr := wr) (b := b) (p := o + k * 2) (cs := [.int .i64 z0, .int .i64 z1]) hbb (fun i v hi => by
     match i, hi with
     | 0, hi => injection hi with hi; subst hi; exact g0
     | 1, hi => injection hi with hi; subst hi; exact g1
     | j + 2, hi => simp at hi))
    clear  hbb g0 g1
    have HNAT := Lib.hid (show ((l + 1 + 1 : Nat) : Int) = (l : Int) + 1 + 1 by omega)
    have hr : l ≤ 1000000000 := by omega
    have hlb : l ≤ 1000000000 := by omega
    clear hl1 hl9 
    have lt_0 := E0.out.lt
    have g0_0 := E0.out.cell 0 _ rfl
    have y0_0 := E0.out.free HFF.out (i := 0) (by simp)
    have g1_0 := E0.out.cell 1 _ rfl
    have y1_0 := E0.out.free HFF.out (i := 1) (by simp)
    simp only [Nat.add_zero] at g0_0 y0_0
    have E1 := Lib.hid (show Elem b (o + k * 2) ([]) wr (wr.setCell ⟨b, o + k * 2, none⟩ (.int .i64 ((l : Int)))) [.int .i64 ((l : Int)), .int .i64 z1] from E0.out.set (i := 0) (by simp) (.int .i64 ((l : Int))))
    clear E0 
    have E2 := Lib.hid (show Elem b (o + k * 2) ([]) wr ((wr.setCell ⟨b, o + k * 2, none⟩ (.int .i64 ((l : Int)))).setCell ⟨b, o + k * 2 + 1, none⟩ (.int .i64 ((l : Int) + 1))) [.int .i64 ((l : Int)), .int .i64 ((l : Int) + 1)] from E1.out.set (i := 1) (by simp) (.int .i64 ((l : Int) + 1)))
    clear E1 
    have HN : Marking edge mkEdgeU nEdgeU fp w xs (some ⟨b, o, none⟩) k0 (.int .i64 ((l : Int) + 1 + 1)) (.int .i64 ((k : Int) + 1)) ((wr.setCell ⟨b, o + k * 2, none⟩ (.int .i64 ((l : Int)))).setCell ⟨b, o + k * 2 + 1, none⟩ (.int .i64 ((l : Int) + 1))) := by
     have hE := E2.out
     have hnat := HNAT.out
     have hN := HNX.out ((wr.setCell ⟨b, o + k * 2, none⟩ (.int .i64 ((l : Int)))).setCell ⟨b, o + k * 2 + 1, none⟩ (.int .i64 ((l : Int) + 1))) [.int .i64 ((l : Int)), .int .i64 ((l : Int) + 1)] (by
      simp only [mkEdgeU]
      have hh := edge_close (q := true) (w := ((wr.setCell ⟨b, o + k * 2, none⟩ (.int .i64 ((l : Int)))).setCell ⟨b, o + k * 2 + 1, none⟩ (.int .i64 ((l : Int) + 1)))) (((l : Nat) : Int)) (((l + 1 : Nat) : Int)) 
      exact hh) hE.modF (fun j hj => hE.other (o + j) (by have hj : j < k * 2 ∨ k * 2 + 2 ≤ j := hj; simp only [List.length_cons, List.length_nil]; omega)) (fun i hi => by
      have hi : i < 2 := hi
      match i, hi with
      | 0, _ => exact hE.cell 0 _ rfl
      | 1, _ => exact hE.cell 1 _ rfl
      | j + 2, hi => omega) (fun j => hE.frozen (o + j))
     rw [show ((l + nEdgeU (z0, z1) : Nat) : Int) = (l : Int) + 1 + 1 by simp only [nEdgeU]; omega, show ((k + 1 : Nat) : Int) = (k : Int) + 1 by omega] at hN
     exact hN
    have HN := Lib.hid HN
    clear E2  HNX
    go_wp2
    go_roundw
    case rel => exact HN.out
    case measure => simp [intOf]; omega
   ·obtain rfl : k = xs.length := by omega
    obtain ⟨h1, h2, h3⟩ := marking_end HC.out HNE.out hrel
    have F := Lib.hid (show MarkedU edge mkEdgeU nEdgeU fp w A c k0 xs (.returned (.int .i64 l)) wr from ⟨by rw [h3]; simp, h1, h2⟩)
    clear h1 h2 h3 hrel
    go_wp2
    go_ret
    exact F.out
end Mem
end Go.Proofs.YtbbllkhmenpnlaaGreat

/-
  Results of a law: slices of Edge: comparison and marks (made by tools/p13.py).
-/
namespace Go.Proofs.YtbbllkhmenpnlaaGreat
open Go.RowKit
namespace Mem
open RowK
theorem eqEdgeSR (A B : Option Addr) (c d : Nat) (xs : List EdgeT) (w : World) (h : ArgS edge w A xs.length c xs) (k : ArgS edge w B xs.length d xs) (hl : xs.length + szs szEdgeU xs ≤ 100000000) :
  Calls Tryz.prog 29 #[.slice A xs.length c, .slice B xs.length d] w fun e w' => e = .returned (.bool true) ∧ Below w.heap.size w w' := by
 obtain ⟨q, fp, h⟩ := h
 obtain ⟨q2, fp2, k⟩ := k
 exact eqEdgeSU q q2 fp fp2 A B c d xs w h k hl
theorem markEdgeSR (lo hi : Nat) (A : Option Addr) (c : Nat) (xs : List EdgeT) (k1 : Nat) (hk9 : k1 = 1 + szs nEdgeU xs) (w : World) (h : OwnS edge lo hi w A xs.length c xs) (hk : xs.length + szs szEdgeU xs ≤ 100000000) :
  Calls Tryz.prog 32 #[.slice A xs.length c, .int .i64 1] w fun e w' => e = .returned (.int .i64 (k1 : Int)) ∧ OwnS edge lo hi w' A xs.length c (mks mkEdgeU nEdgeU 1 xs) ∧ Mod lo hi w w' := by
 rw [hk9]
 obtain ⟨h0, fp, h2, h3, h4⟩ := h
 exact (markEdgeSU fp A c 1 xs w h2 h3 (by omega) (by omega)).mono fun e w' ⟨he, hr, hm⟩ => ⟨he, ⟨Nat.le_trans h0 hm.size, fp, hr, h3, h4⟩, hm.mod h4⟩
theorem heldEdgeSR (A : Option Addr) (c : Nat) (xs : List EdgeT) (k1 : Nat) (hk9 : k1 = 1 + szs nEdgeU xs) (w : World) (h : ArgS edge w A xs.length c (mks mkEdgeU nEdgeU 1 xs)) (hk : xs.length + szs szEdgeU xs ≤ 100000000) :
  Calls Tryz.prog 33 #[.slice A xs.length c, .int .i64 1] w fun e w' => e = .returned (.int .i64 (k1 : Int)) ∧ Below w.heap.size w w' := by
 rw [hk9]
 obtain ⟨q, fp, h⟩ := h
 exact heldEdgeSU q fp A c 1 xs w h (by omega) (by omega)
end Mem
end Go.Proofs.YtbbllkhmenpnlaaGreat
