import Derived.Test.YtiilopfhlmeaoaaGreatDoorRepGen
import Derived.Test.YtiilopfhlmeaoaaGreatDoorKit
import Derived.Test.YtiilopfhlmeaoaaGreatDoorFmtSpec
import Derived.Test.YtiilopfhlmeaoaaGreatDoorStrRow
import Derived.Lib.Hide
import Derived.Deep.RegionHeld3
import Derived.Test.YtiilopfhlmeaoaaGreatDoorProg
import Derived.Deep.QuietTactic
import Derived.BigQuiet
import Derived.Deep.RegionLaw
/-
  Terms as data in memory, and slices of them: the laws' helpers.
-/
namespace Go.Proofs.YtiilopfhlmeaoaaGreatDoor
open Go.RowKit
namespace Mem
open RowK

def term : Rep (Int × ByteArray) := Rep.prod Rep.int Rep.str
def terms : Rep (List (Int × ByteArray)) := Rep.slice term
theorem term_open {q : Bool} {w : World} {fp : List Nat} {cs : List Value} {p : Int × ByteArray} (h : term.rep q w fp cs p) : fp = [] ∧ cs = [.int .i64 p.1, .string p.2] := by
  obtain ⟨f1, f2, c1, c2, rfl, rfl, ⟨rfl, rfl⟩, ⟨rfl, rfl⟩⟩ := h
  exact ⟨rfl, rfl⟩
theorem term_close (q : Bool) (w : World) (z : Int) (s : ByteArray) : term.rep q w [] [.int .i64 z, .string s] (z, s) := ⟨[], [], _, _, rfl, rfl, ⟨rfl, rfl⟩, ⟨rfl, rfl⟩⟩
theorem terms_at {q : Bool} {w : World} {fp : List Nat} {A : Option Addr} {n c : Nat} {xs : List (Int × ByteArray)} (h : terms.rep q w fp [.slice A n c] xs) {k : Nat} (hk : k < xs.length) :
    ∃ b o, A = some ⟨b, o, none⟩ ∧ b < w.heap.size ∧ w.cell? ⟨b, o + k * 2, none⟩ = some (.int .i64 xs[k].1) ∧ w.cell? ⟨b, o + k * 2 + 1, none⟩ = some (.string xs[k].2) := by
  obtain ⟨b, o, f, cs, rfl, hb, hr, hc, _⟩ := slice_at h hk
  obtain ⟨_, rfl⟩ := term_open hr
  exact ⟨b, o, rfl, hb, hc 0 (Nat.succ_pos _), hc 1 (Nat.lt_succ_self _)⟩
theorem ArgS.term_at {w : World} {A : Option Addr} {n c : Nat} {xs : List (Int × ByteArray)} (h : ArgS term w A n c xs) {k : Nat} (hk : k < xs.length) :
    ∃ b o, A = some ⟨b, o, none⟩ ∧ b < w.heap.size ∧ w.cell? ⟨b, o + k * 2, none⟩ = some (.int .i64 xs[k].1) ∧ w.cell? ⟨b, o + k * 2 + 1, none⟩ = some (.string xs[k].2) := by
  obtain ⟨q, fp, h⟩ := h
  exact terms_at h hk
theorem termInfo9 : (Tryz.prog.info? 60).map (fun i => (i.zero, i.size, i.bytes)) = some (some (.agg #[.int .i64 0, .string ByteArray.empty]), 2, 24) := by kernel_rfl
end Mem
end Go.Proofs.YtiilopfhlmeaoaaGreatDoor

/-
  Sums as data in memory, and slices of them: the laws' helpers.
-/
namespace Go.Proofs.YtiilopfhlmeaoaaGreatDoor
open Go.RowKit
namespace Mem
open RowK

abbrev SumT := Int × List (Int × ByteArray)
def sum : Rep SumT := Rep.prod Rep.int terms
def sums : Rep (List SumT) := Rep.slice sum
theorem sum_open {q : Bool} {w : World} {fp : List Nat} {cs : List Value} {p : SumT} (h : sum.rep q w fp cs p) :
    ∃ A c, cs = [.int .i64 p.1, .slice A p.2.length c] ∧ p.2.length ≤ c ∧ terms.rep q w fp [.slice A p.2.length c] p.2 := by
  obtain ⟨f1, f2, c1, c2, rfl, rfl, ⟨rfl, rfl⟩, h2⟩ := h
  obtain ⟨A, c, rfl, hc, h3⟩ := h2
  exact ⟨A, c, rfl, hc, A, c, rfl, hc, h3⟩
theorem sums_at {q : Bool} {w : World} {fp : List Nat} {A : Option Addr} {n c : Nat} {xs : List SumT} (h : sums.rep q w fp [.slice A n c] xs) {k : Nat} (hk : k < xs.length) :
    ∃ b o B d f, A = some ⟨b, o, none⟩ ∧ b < w.heap.size ∧ w.cell? ⟨b, o + k * 2, none⟩ = some (.int .i64 xs[k].1) ∧ w.cell? ⟨b, o + k * 2 + 1, none⟩ = some (.slice B xs[k].2.length d) ∧ terms.rep q w f [.slice B xs[k].2.length d] xs[k].2 := by
  obtain ⟨b, o, f, cs, rfl, hb, hr, hc, _⟩ := slice_at h hk
  obtain ⟨B, d, rfl, _, h2⟩ := sum_open hr
  exact ⟨b, o, B, d, f, rfl, hb, hc 0 (Nat.succ_pos _), hc 1 (Nat.lt_succ_self _), h2⟩
theorem ArgS.sum_at {w : World} {A : Option Addr} {n c : Nat} {xs : List SumT} (h : ArgS sum w A n c xs) {k : Nat} (hk : k < xs.length) :
    ∃ b o B d, A = some ⟨b, o, none⟩ ∧ b < w.heap.size ∧ w.cell? ⟨b, o + k * 2, none⟩ = some (.int .i64 xs[k].1) ∧ w.cell? ⟨b, o + k * 2 + 1, none⟩ = some (.slice B xs[k].2.length d) ∧ ArgS term w B xs[k].2.length d xs[k].2 := by
  obtain ⟨q, fp, h⟩ := h
  obtain ⟨b, o, B, d, f, h1, h2, h3, h4, h5⟩ := sums_at h hk
  exact ⟨b, o, B, d, h1, h2, h3, h4, q, f, h5⟩
def ssl (x : SumT) : Nat := x.2.length
theorem sumInfo : (Tryz.prog.info? 50).map (fun i => (i.zero, i.size, i.bytes)) = some (some (.agg #[.int .i64 0, .slice none 0 0]), 2, 32) := by kernel_rfl
end Mem
end Go.Proofs.YtiilopfhlmeaoaaGreatDoor
