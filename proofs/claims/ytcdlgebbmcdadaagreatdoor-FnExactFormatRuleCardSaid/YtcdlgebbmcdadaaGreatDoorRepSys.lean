import Derived.Test.YtcdlgebbmcdadaaGreatDoorRepGen
import Derived.Deep.RegionLaw
/-
  Systems as data in memory: the laws' helpers.
-/
namespace Go.Proofs.YtcdlgebbmcdadaaGreatDoor
open Go.RowKit
namespace Mem
open RowK

def sys : Rep (Int × List (Int × List Int)) := Rep.prod Rep.int lins
theorem sys_open {q : Bool} {w : World} {fp : List Nat} {cs : List Value} {p : Int × List (Int × List Int)} (h : sys.rep q w fp cs p) : ∃ A c, cs = [.int .i64 p.1, .slice A p.2.length c] ∧ lins.rep q w fp [.slice A p.2.length c] p.2 := by
  obtain ⟨f1, f2, c1, c2, rfl, rfl, ⟨rfl, rfl⟩, h2⟩ := h
  obtain ⟨A, c, rfl, h3⟩ := h2
  exact ⟨A, c, rfl, A, c, rfl, h3⟩
theorem sys_close {q : Bool} {w : World} {fp : List Nat} {A : Option Addr} {c : Nat} {n : Int} {xs : List (Int × List Int)} (h : lins.rep q w fp [.slice A xs.length c] xs) : sys.rep q w fp [.int .i64 n, .slice A xs.length c] (n, xs) :=
  ⟨[], fp, _, _, rfl, rfl, ⟨rfl, rfl⟩, h⟩
theorem New.keep {α : Type} {r : Rep α} {w w1 w2 : World} {lo hi : Nat} {x : α} {cs : List Value} (h : New r w x w1 cs) (m : Mod lo hi w1 w2) (hd : hi ≤ w.heap.size) : New r w x w2 cs := by
  obtain ⟨fp, h1, h2, h3⟩ := h
  exact ⟨fp, Rep.keep h1 m (fun b hb => Or.inr (by have := h3 b hb; omega)), h2, h3⟩
theorem New.sys {w w1 : World} {A : Option Addr} {c : Nat} {n : Int} {xs : List (Int × List Int)} (h : New lins w xs w1 [.slice A xs.length c]) : New Mem.sys w (n, xs) w1 [.int .i64 n, .slice A xs.length c] := by
  obtain ⟨fp, h1, h2, h3⟩ := h
  exact ⟨fp, sys_close h1, h2, h3⟩

end Mem
end Go.Proofs.YtcdlgebbmcdadaaGreatDoor
