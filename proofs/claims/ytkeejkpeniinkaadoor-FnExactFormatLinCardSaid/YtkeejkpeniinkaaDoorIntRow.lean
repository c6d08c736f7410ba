/-
  The laws' helpers on slices of integers: copy, size, comparison, marks.
-/
import Derived.Test.YtkeejkpeniinkaaDoorProg
import Derived.Test.YtkeejkpeniinkaaDoorRow
import Derived.Lib.Hide
import Derived.Lib.Split
import Derived.Lib.CountLaws
import Derived.Deep.QuietTactic
import Derived.BigQuiet
namespace Go.Proofs.YtkeejkpeniinkaaDoor
open Go.RowKit
namespace IntK
open RowK

/-- The cells of a slice of integers. -/
def iv (zs : List Int) : List Value := zs.map (Value.int .i64)
theorem iv_len (zs : List Int) : (iv zs).length = zs.length := by simp [iv]
theorem iv_get {zs : List Int} {k : Nat} (h : k < zs.length) (h' : k < (iv zs).length) : (iv zs)[k] = .int .i64 zs[k] := by simp [iv]
theorem iv_nil : iv [] = [] := rfl

theorem at_ {lo hi : Nat} {w : World} {A : Option Addr} {zs : List Int} (h : Row lo hi w A (iv zs)) {k : Nat} (hk : k < zs.length) : ∃ b o, A = some ⟨b, o, none⟩ ∧ (lo ≤ b ∧ b < hi ∧ hi ≤ w.heap.size) ∧ w.cell? ⟨b, o + k, none⟩ = some (.int .i64 zs[k]) := by
  obtain ⟨b, o, e, h1, h2⟩ := h.at_ (k := k) (by rw [iv_len]; exact hk)
  exact ⟨b, o, e, h1, by rw [h2, iv_get hk]⟩

theorem at_below {lo hi : Nat} {w w' : World} {A : Option Addr} {zs : List Int} (h : Row lo hi w A (iv zs)) (hb : Below w.heap.size w w') {k : Nat} (hk : k < zs.length) : ∃ b o, A = some ⟨b, o, none⟩ ∧ (lo ≤ b ∧ b < hi ∧ hi ≤ w.heap.size) ∧ w'.cell? ⟨b, o + k, none⟩ = some (.int .i64 zs[k]) := by
  obtain ⟨b, o, e, h1, h2⟩ := at_ h hk
  exact ⟨b, o, e, h1, by rw [hb.cell (p := ⟨b, o + k, none⟩) (by show b < _; omega)]; exact h2⟩

/-- A slice of integers in the stretch from lo to hi that may be written. -/
def Own (lo hi : Nat) (w : World) (A : Option Addr) (zs : List Int) : Prop := Row lo hi w A (iv zs) ∧ Free w A zs.length
theorem Own.keep {lo hi lo' hi' : Nat} {w w' : World} {A : Option Addr} {zs : List Int} (h : Own lo hi w A zs) (hm : Mod lo' hi' w w') (hd : hi ≤ lo' ∨ hi' ≤ lo) : Own lo hi w' A zs := ⟨h.1.keep hm hd, h.2.keep h.1 (by rw [iv_len]; exact Nat.le_refl _) hm hd⟩
theorem Own.below {lo hi : Nat} {w w' : World} {A : Option Addr} {zs : List Int} (h : Own lo hi w A zs) (hb : Below w.heap.size w w') : Own lo hi w' A zs := ⟨h.1.below hb, h.2.below h.1 (by rw [iv_len]; exact Nat.le_refl _) hb⟩

theorem intInfo : (Tryd.prog.info? 3).map (fun i => (i.zero, i.size, i.bytes)) = some (some (.int .i64 0), 1, 8) := by kernel_rfl

/-- What has been copied behind k rounds. -/
def part (zs : List Int) (k : Nat) : List Value := iv (zs.take k) ++ List.replicate (zs.length - k) (Value.int .i64 0)
theorem part_zero (zs : List Int) : part zs 0 = List.replicate zs.length (Value.int .i64 0) := by simp [part, iv]
theorem part_all (zs : List Int) : part zs zs.length = iv zs := by simp [part]
theorem part_len (zs : List Int) (k : Nat) (h : k ≤ zs.length) : (part zs k).length = zs.length := by simp [part, iv]; omega
theorem part_set (zs : List Int) (k : Nat) (h : k < zs.length) : (part zs k).set k (Value.int .i64 zs[k]) = part zs (k + 1) := by
  unfold part iv
  rw [List.set_append_right _ _ (by simp; omega), List.length_map, List.length_take, Nat.min_eq_left (by omega), Nat.sub_self, show zs.length - k = (zs.length - (k + 1)) + 1 by omega, List.replicate_succ, List.set_cons_zero, List.take_add_one, List.getElem?_eq_getElem h, List.map_append, List.append_assoc]
  rfl

/-- make([]int, n): the value and the world. -/
theorem run_mk (n : Nat) (hn : n ≤ 1000000000000) (u : World) : (Instr.makeSlice 22 (.int .i64 (n : Int)) (.int .i64 (n : Int))).run Tryd.prog u =
    .ok (.slice (some ⟨u.heap.size, 0, none⟩) n n) (u.alloc (.cells (madeCells #[.int .i64 0] n) 3)) := by
  obtain ⟨i0, hi, hz0, hz1, hz2⟩ := info_parts intInfo
  have h := run_make (P := Tryd.prog) u 22 3 i0 (.int .i64 0) Tryd.underlying22 hi hz0 .i64 .i64 (n : Int) (n : Int) (by omega) (Int.le_refl _) (by rw [hz2]; omega) (by omega)
  simpa [hz1, Value.cells] using h
theorem made_own (n : Nat) (hn : n ≤ 1000000000000) (w : World) : (w.alloc (.cells (madeCells #[.int .i64 0] n) 3)).ownsRow w.heap.size 3 1 (.slice (some ⟨w.heap.size, 0, none⟩) n n) n (List.replicate n (.int .i64 0)) := by
  refine ⟨by simp, Or.inr ⟨w.heap.size, n, _, rfl, Nat.le_refl _, heap_alloc_new _ _, Nat.le_refl _, by unfold maxLen; omega, by rw [size_madeCells, Nat.mul_one], ?_⟩⟩
  rw [toList_madeCells_one]
  simp

def Copied (w : World) (zs : List Int) (e : Ending) (w' : World) : Prop :=
  ∃ A, e = .returned (.slice A zs.length zs.length) ∧ Row w.heap.size w'.heap.size w' A (iv zs) ∧ Free w' A zs.length ∧ Below w.heap.size w w'

set_option maxHeartbeats 1000000 in
set_option maxRecDepth 100000 in
theorem copy (lo hi : Nat) (A : Option Addr) (c : Nat) (zs : List Int) (w : World) (hA : Row lo hi w A (iv zs)) (hl : zs.length ≤ 1000000000) :
    Calls Tryd.prog 19 #[.slice A zs.length c] w (Copied w zs) := by
  have hmk := run_mk zs.length (by omega)
  have hown0 := made_own zs.length (by omega) w
  rw [← part_zero] at hown0
  have HO := Lib.hid hown0
  clear hown0
  go_enter Tryd.func19, Tryd.ntmps19
  go_wp2
  go_loopw [4] (fun i wr => ∃ k : Nat, k ≤ zs.length ∧ i = .int .i64 k ∧ wr.ownsRow w.heap.size 3 1 (.slice (some ⟨w.heap.size, 0, none⟩) zs.length zs.length) zs.length (part zs k) ∧ Below w.heap.size w wr) (fun i _ => zs.length - (intOf i).toNat)
  case atStart => exact ⟨0, Nat.zero_le _, rfl, HO.out, (Below.refl _ _).alloc (Nat.le_refl _) _⟩
  case round =>
    obtain ⟨k, hk, rfl, hown, hb⟩ := hrel
    by_cases hlt : k < zs.length
    · obtain ⟨b, o, rfl, hbl, hc⟩ := at_ (hA.below hb) hlt
      have hst := hown.stored k (.int .i64 zs[k])
      rw [part_set zs k hlt] at hst
      have hcell : wr.cell? ⟨w.heap.size, k, none⟩ = some (.int .i64 0) := by
        rw [hown.cellAt k (by omega)]
        simp only [part, iv]
        rw [List.getElem?_append_right (by simp; omega), List.length_map, List.length_take, Nat.min_eq_left (by omega), Nat.sub_self, List.getElem?_replicate, if_pos (by omega)]
      have hfr := hown.frozenAt k
      have hb1 : Below w.heap.size w (wr.setCell ⟨w.heap.size, k, none⟩ (.int .i64 zs[k])) := hb.setCell (Nat.le_refl _) _
      have HST := Lib.hid hst.1
      have HB := Lib.hid hb1
      clear hst hb1 hown
      generalize zs[k] = s at *
      go_wp2
      go_roundw
      case rel => exact ⟨k + 1, by omega, by go_num, HST.out, HB.out⟩
      case measure => simp [intOf]; omega
    · obtain rfl : k = zs.length := by omega
      go_wp2
      go_ret
      rw [part_all] at hown
      obtain ⟨A', cap, e, h1, h2, _, _⟩ := of_own hown
      injection e with e1 e2 e3
      subst e1
      rw [iv_len] at h2
      exact ⟨_, rfl, h1, h2, hb⟩

/-- What is left of L behind n more; -1 where n is more. -/
def leftOf (L n : Nat) : Int := if n ≤ L then (L : Int) - n else -1

theorem size (A : Option Addr) (c L n : Nat) (w : World) (hL : L ≤ 1000000000000) (hl : n ≤ 9223372036854775807) :
    Calls Tryd.prog 15 #[.slice A n c, .int .i64 L] w fun e w' => e = .returned (.int .i64 (leftOf L n)) ∧ w = w' := by
  unfold leftOf
  by_cases h0 : n ≤ L
  · rw [if_pos h0]
    go_enter Tryd.func15, Tryd.ntmps15
    go_wp2
    go_ret
    exact ⟨rfl, rfl⟩
  · rw [if_neg h0]
    go_enter Tryd.func15, Tryd.ntmps15
    go_wp2
    go_ret
    exact ⟨rfl, rfl⟩

set_option maxHeartbeats 400000 in
set_option maxRecDepth 100000 in
theorem eq_same (lo hi lo' hi' : Nat) (A B : Option Addr) (c d : Nat) (zs : List Int) (w : World) (hA : Row lo hi w A (iv zs)) (hB : Row lo' hi' w B (iv zs)) (hl : zs.length ≤ 1000000000000) :
    Calls Tryd.prog 23 #[.slice A zs.length c, .slice B zs.length d] w fun e w' => e = .returned (.bool true) ∧ Below w.heap.size w w' := by
  go_enter Tryd.func23, Tryd.ntmps23
  go_wp2
  go_loopw [5] (fun i wr => ∃ k : Nat, k ≤ zs.length ∧ i = .int .i64 k ∧ Below w.heap.size w wr) (fun i _ => zs.length - (intOf i).toNat)
  case atStart => exact ⟨0, Nat.zero_le _, rfl, Below.refl _ _⟩
  case round =>
    obtain ⟨k, hk, rfl, hb⟩ := hrel
    by_cases hlt : k < zs.length
    · obtain ⟨b1, o1, rfl, hlt1, hc1⟩ := at_ (hA.below hb) hlt
      obtain ⟨b2, o2, rfl, hlt2, hc2⟩ := at_ (hB.below hb) hlt
      generalize zs[k] = s at hc1 hc2
      have hi0 : (0 : Int) ≤ (k : Int) := by omega
      have hi1 : (k : Int) < (zs.length : Int) := by omega
      go_wp2
      go_quiet (fail)
      go_wp2
      go_roundw
      case rel => exact ⟨k + 1, by omega, by go_num, below_drewN hb _⟩
      case measure => simp [intOf]; omega
    · go_wp2
      go_ret
      exact ⟨rfl, hb⟩

/-- The marks from k on. -/
def marks (k n : Nat) : List Int := (List.range n).map fun j => ((k + j : Nat) : Int)
theorem marks_length (k n : Nat) : (marks k n).length = n := by simp [marks]
theorem marks_at {k n j : Nat} (_h : j < n) (h' : j < (marks k n).length) : (marks k n)[j] = ((k : Int) + j) := by simp [marks]

end IntK
end Go.Proofs.YtkeejkpeniinkaaDoor
