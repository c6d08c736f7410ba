import Derived.Test.YtbbllkhmenpnlaaGreatRepUni
import Derived.Deep.RegionLaw
import Derived.Deep.RegionHeld3
/-
  The laws' helpers on Edge: copies, sizes, comparison, marks (made by tools/ukit.py).
-/
namespace Go.Proofs.YtbbllkhmenpnlaaGreat
open Go.RowKit
namespace Mem
open RowK

abbrev EdgeT := Int × Int
def edge : Rep EdgeT := Rep.prod Rep.int Rep.int
theorem edge_open {q : Bool} {w : World} {fp : List Nat} {cs : List Value} {p : EdgeT} (h : edge.rep q w fp cs p) : fp = [] ∧ cs = [.int .i64 p.1, .int .i64 p.2] := by
 obtain ⟨g0, g0', d0, d0', rfl, rfl, k0, h'⟩ := h
 obtain ⟨rfl, rfl⟩ := k0
 obtain ⟨rfl, rfl⟩ := h'
 exact ⟨by simp, rfl⟩
theorem edge_close {q : Bool} {w : World}  (z0 : Int) (z1 : Int)  : edge.rep q w ([]) [.int .i64 z0, .int .i64 z1] (z0, z1) := by
 have e : ([] : List Nat) = [] ++ ([]) := by simp
 rw [e]
 exact (show edge.rep q w ([] ++ ([])) ([.int .i64 z0] ++ ([.int .i64 z1])) _ from ⟨_, _, _, _, rfl, rfl, ⟨rfl, rfl⟩, ⟨rfl, rfl⟩⟩)
theorem edges_at {q : Bool} {w : World} {fp : List Nat} {A : Option Addr} {n c : Nat} {xs : List EdgeT} (h : (Rep.slice edge).rep q w fp [.slice A n c] xs) {k : Nat} (hk : k < xs.length) :
  ∃ b o, A = some ⟨b, o, none⟩ ∧ b < w.heap.size ∧ w.cell? ⟨b, o + k * 2, none⟩ = some (.int .i64 xs[k].1) ∧ w.cell? ⟨b, o + k * 2 + 1, none⟩ = some (.int .i64 xs[k].2) := by
 obtain ⟨b, o, f, cs, rfl, hb, hr, hc, _⟩ := slice_at h hk
 obtain ⟨_, rfl⟩ := edge_open hr
 have hn : edge.n = 2 := rfl
 rw [hn] at hc
 exact ⟨b, o, rfl, hb, hc 0 (by omega), hc 1 (by omega)⟩
theorem ArgS.edge_at {w : World} {A : Option Addr} {n c : Nat} {xs : List EdgeT} (h : ArgS edge w A n c xs) {k : Nat} (hk : k < xs.length) :
  ∃ b o, A = some ⟨b, o, none⟩ ∧ b < w.heap.size ∧ w.cell? ⟨b, o + k * 2, none⟩ = some (.int .i64 xs[k].1) ∧ w.cell? ⟨b, o + k * 2 + 1, none⟩ = some (.int .i64 xs[k].2) := by
 obtain ⟨q, fp, h⟩ := h
 obtain ⟨b, o, rfl, hb, h0, h1⟩ := edges_at h hk
 exact ⟨b, o, rfl, hb, h0, h1⟩
theorem infoEdge : (Tryz.prog.info? 50).map (fun i => (i.zero, i.size, i.bytes)) = some (some (.agg #[.int .i64 0, .int .i64 0]), 2, 16) := by kernel_rfl
end Mem
end Go.Proofs.YtbbllkhmenpnlaaGreat
