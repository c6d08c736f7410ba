import Derived.Test.YtiilopfhlmeaoaaGreatDoorProg
import Derived.Test.YtiilopfhlmeaoaaGreatDoorStrRow
import Derived.Test.YtiilopfhlmeaoaaGreatDoorNameOps
import Derived.Test.YtiilopfhlmeaoaaGreatDoorArgMath2
import Derived.Test.YtiilopfhlmeaoaaGreatDoorShelf
import Derived.Sort.OwnSorted
import Derived.Sort.Grow
import Derived.Lib.OwnBridge
import Derived.Lib.Hide
/-
  The program's SortNames and AllDistinct: a copy, sorted, repetitions struck.
-/
namespace Go.Proofs.YtiilopfhlmeaoaaGreatDoor
open Go.RowKit Go.Shelf Go.Sort
namespace NameS
open SortM

/-- What is handed back owns the sorted texts. -/
def Own (w : World) (ls : List Bytes) (e : Ending) (w' : World) : Prop :=
  ∃ g cap, e = .returned (.slice (some ⟨g, 0, none⟩) (srt ls).length cap) ∧ w'.ownsRow w.heap.size 9 1 (.slice (some ⟨g, 0, none⟩) (srt ls).length cap) (srt ls).length ((srt ls).map encStr) ∧ Below w.heap.size w w'

/-- From what the three library calls leave to 'Own'. -/
theorem own_of {w w1 : World} {g cap n nn q : Nat} {os : Array Obj} {ss : List Bytes} (hown : w1.ownsRow w.heap.size 9 1 (.slice (some ⟨g, 0, none⟩) n cap) n (ss.map encStr)) (hbel : Below w.heap.size w w1) (hbg : w.heap.size ≤ g) (hlen : ss.length = n) :
    Own w ss (.returned (.slice (some ⟨g, 0, none⟩) (Lib.compact (ss.mergeSort fun x y => decide (x ≤ y))).length cap))
      (putRow encStr (Sort.ahead (grow (putRow encStr (Sort.ahead w1 nn) g 0 (ss.mergeSort fun x y => decide (x ≤ y)).toArray) os) q) g 0 (Lib.compact (ss.mergeSort fun x y => decide (x ≤ y)) ++ List.replicate (n - (Lib.compact (ss.mergeSort fun x y => decide (x ≤ y))).length) []).toArray) := by
  have hl2 : (ss.mergeSort fun x y => decide (x ≤ y)).length = ss.length := List.length_mergeSort ss
  have hle := Lib.compact_length_le (ss.mergeSort fun x y => decide (x ≤ y))
  subst hlen
  rcases hown.2 with ⟨h0, _⟩ | ⟨g', cap', cur, hv, hbase, hb, h1, h2, h3, h4⟩
  · cases h0
  cases hv
  have hs := ownsRow_sorted (n := nn) (os := os) (ts := ss.mergeSort fun x y => decide (x ≤ y)) hl2 hbase hb h1 h2 h3
  have hc := Lib.ownsRow_putRow (q := q) (k := (Lib.compact (ss.mergeSort fun x y => decide (x ≤ y))).length) (ys := Lib.compact (ss.mergeSort fun x y => decide (x ≤ y)) ++ List.replicate (ss.length - (Lib.compact (ss.mergeSort fun x y => decide (x ≤ y))).length) []) hs (by simp; omega) (by omega)
  rw [List.take_left] at hc
  rw [compact_sort] at hc ⊢
  exact ⟨g, cap, rfl, hc, Lib.below_putRow (hbel.grown (grownBy_sorted _) hbel.size (fun j hj => by cases hj; exact hbase)) hbg⟩

set_option maxHeartbeats 2000000 in
set_option maxRecDepth 100000 in
/-- Whatever the argument of which slices.Clone gives a slice that owns 'ls'. -/
theorem sort_tail (n : Nat) (arg : Value) (ls : List Bytes) (w : World) (hn : n ≤ 4611686018427387903)
    (hclone : Calls Tryz.prog 51 #[arg] w fun e w' => ∃ v', e = .returned v' ∧ w'.ownsRow w.heap.size 9 1 v' n (ls.map encStr) ∧ v' ≠ .slice none 0 0 ∧ Below w.heap.size w w') :
    Calls Tryz.prog 32 #[arg] w (Own w ls) := by
  have HC := Lib.hid hclone
  clear hclone
  go_enter Tryz.func32, Tryz.ntmps32
  go_wp2_with fail
  refine (Calls.mono HC.out) ?_
  rintro e w1 ⟨v1, rfl, hown, hnn, hbel⟩
  obtain ⟨g, cap, rfl, hbg, hgl, hncap, hcm, hlen, hH⟩ := Lib.holds_of_ownsRow hown hnn
  have hsort := Tryz.slices_Sort_string g 0 cap ls w1 hH hgl (by omega)
  rw [hlen] at hsort
  have HS := Lib.hid hsort
  have HX := Lib.hid (And.intro hown (And.intro hbel hH))
  have HL := Lib.hid hlen
  clear hsort hown hbel hH hnn hlen
  go_wp2_with fail
  refine (Calls.mono HS.out) ?_
  rintro e w2 ⟨rfl, nn, os, rfl⟩
  have hl2 : (ls.mergeSort fun x y => decide (x ≤ y)).length = n := by rw [List.length_mergeSort]; exact HL.out
  have hH2 : Holds encStr (grow (putRow encStr (Sort.ahead w1 nn) g 0 (ls.mergeSort fun x y => decide (x ≤ y)).toArray) os) g 0 (ls.mergeSort fun x y => decide (x ≤ y)).toArray :=
    holds_grow encStr _ os g 0 _ (by simpa [putRow, mapBlock, Sort.ahead] using hgl) (holds_putRow encStr _ g 0 _ _ (holds_ahead encStr w1 nn g 0 _ HX.out.2.2) (by simp))
  have hcomp := Tryz.slices_Compact_string g 0 cap (ls.mergeSort fun x y => decide (x ≤ y)) _ hH2 (by omega) (by omega)
  rw [hl2] at hcomp
  have HC2 := Lib.hid hcomp
  clear hcomp hH2 hl2
  go_wp2_with fail
  refine (Calls.mono HC2.out) ?_
  rintro e w3 ⟨rfl, q, rfl⟩
  have HF := Lib.hid (own_of (nn := nn) (q := q) (os := os) HX.out.1 HX.out.2.1 hbg HL.out)
  go_wp2
  go_ret
  exact HF.out

theorem map_enc (ss : List ByteArray) : (ss.map fun s => s.data.toList).map encStr = ss.map Value.string := Lib.map_encStr ss

/-- SORTNAMES of the program. -/
theorem implSort (A : Option Addr) (c : Nat) (ss : List ByteArray) (w : World) (hA : StrK.SRow w A ss) (hl : ss.length ≤ 1000000000000) :
    Calls Tryz.prog 32 #[.slice A ss.length c] w (StrK.Gave w (srtB ss)) := by
  have fin : ∀ {ls : List Bytes} {e w'}, ls = ss.map (fun s => s.data.toList) → Own w ls e w' → StrK.Gave w (srtB ss) e w' := by
    rintro ls e w' rfl ⟨g, cap, rfl, hown, hb⟩
    have hlen : (srt (ss.map fun s => s.data.toList)).length = (srtB ss).length := by simp [srtB]
    have hm : (srt (ss.map fun s => s.data.toList)).map encStr = (srtB ss).map Value.string := by rw [← srtB_data, map_enc]
    rw [hlen, hm] at hown
    rw [hlen]
    obtain ⟨A', cap', e, h1, h2, h3, h4⟩ := StrK.of_own hown
    injection e with e1 e2 e3
    subst e1; subst e3
    exact ⟨_, _, rfl, h1, h2, hb, h3, h4⟩
  by_cases hn : ss = []
  · subst hn
    cases A with
    | some a =>
      exact (sort_tail 0 _ [] w (by omega) ((Tryz.slices_Clone_string_zero a c w).mono fun e w' ⟨v', h1, h2, h3, h4⟩ => ⟨v', h1, h2, h3, h4⟩)).mono fun e w' h => fin rfl h
    | none =>
      go_enter Tryz.func32, Tryz.ntmps32
      go_wp2_with fail
      refine (Tryz.slices_Clone_string_nil _ _ _).mono ?_
      rintro e w' ⟨rfl, rfl⟩
      go_wp2_with fail
      refine (Tryz.slices_Sort_string_none _ _ _).mono ?_
      rintro e w' ⟨rfl, rfl⟩
      go_wp2_with fail
      refine (Tryz.slices_Compact_string_empty _ _ _).mono ?_
      rintro e w' ⟨rfl, rfl⟩
      go_wp2
      go_ret
      exact ⟨none, 0, rfl, fun h => absurd rfl h, fun h => by simp [srtB, srt] at h, Below.refl _ _, (fun a e => by cases e), Nat.le_refl _⟩
  · obtain ⟨b, o, rfl, hb, hc⟩ := hA hn
    refine (sort_tail ss.length _ (ss.map fun s => s.data.toList) w (by omega) ((Tryz.slices_Clone_string b o ss.length c ss w (Nat.le_refl _) (by omega) (fun j hj => ?_)).mono fun e w' ⟨v', h1, h2, h3, h4⟩ => ⟨v', h1, ?_, h3, h4⟩)).mono fun e w' h => fin rfl h
    · rw [hc j ss[j] (List.getElem?_eq_getElem hj), List.getD, List.getElem?_eq_getElem hj]; rfl
    · rw [map_enc]
      rw [List.take_length] at h2
      exact h2

/-- Whether no two are equal. -/
def dist (ss : List ByteArray) : Bool := decide ((srtB ss).length = ss.length)

theorem implDistinct (A : Option Addr) (c : Nat) (ss : List ByteArray) (w : World) (hA : StrK.SRow w A ss) (hl : ss.length ≤ 1000000000000) :
    Calls Tryz.prog 125 #[.slice A ss.length c] w fun e w' => e = .returned (.bool (dist ss)) ∧ Below w.heap.size w w' := by
  have HS := Lib.hid (implSort A c ss w hA hl)
  have HD : Hid (dist ss = decide (((srtB ss).length : Int) = (ss.length : Int))) := Lib.hid (by
    unfold dist; rw [Bool.eq_iff_iff, decide_eq_true_eq, decide_eq_true_eq]; omega)
  have hle := srtB_length ss
  generalize dist ss = db at *
  generalize srtB ss = os at *
  go_enter Tryz.func125, Tryz.ntmps125
  go_wp2_with fail
  refine (Calls.mono HS.out) ?_
  rintro e w1 ⟨B, cb, rfl, rb, _, b1, _, _⟩
  go_wp2
  go_ret
  exact ⟨ret_bool (by rw [HD.out]; rfl), b1⟩
end NameS
end Go.Proofs.YtiilopfhlmeaoaaGreatDoor
