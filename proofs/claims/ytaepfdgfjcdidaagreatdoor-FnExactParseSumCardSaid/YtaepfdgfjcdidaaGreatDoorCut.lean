import Derived.Test.YtaepfdgfjcdidaaGreatDoorTextImpl
import Derived.WalkSmall
import Derived.Laws.RangeAny
import Derived.Lib.Strings
import Derived.Deep.QuietTactic
import Derived.BigQuiet
/-
  impl.cutDigits: the digits at the start of a text, and the rest.
-/
namespace Go.Proofs.YtaepfdgfjcdidaaGreatDoor
open Go.RowKit
namespace CutI
open TextM TextI NameM

theorem at_data (s : ByteArray) (k : Nat) (h : k < s.size) : s.data.toList[k]? = some s[k] := by
  rw [List.getElem?_eq_getElem (by simpa using h)]; rfl
theorem span_at {p : UInt8 → Bool} : ∀ (l : List UInt8) (k : Nat), k ≤ l.length → (∀ j c, j < k → l[j]? = some c → p c = true) → (∀ c, l[k]? = some c → p c = false) → l.takeWhile p = l.take k ∧ l.dropWhile p = l.drop k
  | [], k, h, _, _ => by
    have : k = 0 := by simpa using h
    subst this; exact ⟨rfl, rfl⟩
  | a :: l, 0, _, _, h => by
    have := h a rfl
    simp [this]
  | a :: l, k + 1, hk, h1, h2 => by
    have ha := h1 0 a (by omega) rfl
    have ih := span_at l k (by simpa using hk) (fun j c hj hc => h1 (j + 1) c (by omega) (by simpa using hc)) (fun c hc => h2 c (by simpa using hc))
    simp [ha, ih]
theorem upto_eq (s : ByteArray) (k : Nat) : s.extract 0 k = ⟨(s.data.toList.take k).toArray⟩ := NameM.toList_inj (by rw [Lib.extract_data]; simp)
theorem from_eq (s : ByteArray) (k : Nat) : s.extract k s.size = ⟨(s.data.toList.drop k).toArray⟩ := NameM.toList_inj (by rw [Lib.extract_data]; simp [List.take_of_length_le])

/-- What is handed back. -/
def Two (w : World) (s : ByteArray) (e : Ending) (w' : World) : Prop :=
  e = .returned (.tuple #[.string ⟨(s.data.toList.takeWhile digit).toArray⟩, .string ⟨(s.data.toList.dropWhile digit).toArray⟩]) ∧ Below w.heap.size w w'
theorem two_at {w w' : World} {s : ByteArray} (k : Nat) (hk : k ≤ s.size) (h1 : ∀ j c, j < k → s.data.toList[j]? = some c → digit c = true) (h2 : ∀ c, s.data.toList[k]? = some c → digit c = false) (hb : Below w.heap.size w w') :
    Two w s (.returned (.tuple #[.string (s.extract 0 k), .string (s.extract k s.size)])) w' := by
  have h := span_at s.data.toList k (by rw [size_list]; exact hk) h1 h2
  exact ⟨by rw [h.1, h.2, upto_eq, from_eq], hb⟩
theorem two_end {w w' : World} {s : ByteArray} (h1 : ∀ j c, j < s.size → s.data.toList[j]? = some c → digit c = true) (hb : Below w.heap.size w w') :
    Two w s (.returned (.tuple #[.string s, .string ⟨#[]⟩])) w' := by
  have h := span_at s.data.toList s.size (by rw [size_list]; exact Nat.le_refl _) h1 (fun c hc => by
    rw [List.getElem?_eq_none (by rw [size_list]; exact Nat.le_refl _)] at hc; cases hc)
  refine ⟨?_, hb⟩
  rw [h.1, h.2, List.take_of_length_le (by rw [size_list]; exact Nat.le_refl _), List.drop_of_length_le (by rw [size_list]; exact Nat.le_refl _), mk_list]

theorem iter_below (w : World) (s : ByteArray) (pos : Nat) : Below w.heap.size w (w.iter s pos) := (Below.refl _ _).alloc (Nat.le_refl _) _

set_option maxHeartbeats 1000000 in
set_option maxRecDepth 100000 in
theorem digits (s : ByteArray) (hs : s.size ≤ 1048576) (w : World) :
    Calls Tryz.prog 110 #[.string s] w (Two w s) := by
  go_enter Tryz.func110, Tryz.ntmps110
  go_wp2
  go_loopw [4] (fun _ wr => ∃ pos : Nat, wr = w.iter s pos ∧ pos ≤ s.size ∧ ∀ j c, j < pos → s.data.toList[j]? = some c → digit c = true) (fun _ wr => s.size - wr.iterPos w.heap.size)
  case atStart => exact ⟨0, rfl, Nat.zero_le _, fun j c hj => absurd hj (Nat.not_lt_zero _)⟩
  case round =>
    obtain ⟨pos, rfl, hle, hpre⟩ := hrel
    have HP := Lib.hid hpre
    clear hpre
    by_cases hp : pos < s.size
    · have hg := at_data s pos hp
      have hi0 : (0 : Int) ≤ (pos : Int) := by omega
      have hi1 : (pos : Int) ≤ (s.size : Int) := by omega
      cases hd : digit s[pos] with
      | true =>
        have hdd : 48 ≤ s[pos].toNat ∧ s[pos].toNat ≤ 57 := by
          simp only [digit, Bool.and_eq_true, decide_eq_true_eq] at hd
          omega
        have hnx : ∀ ty, (Instr.next (.pointer (some ⟨w.heap.size, 0, none⟩)) true ty).run Tryz.prog (w.iter s pos) = _ := fun ty => run_next_ascii w s pos ty hp (by omega)
        have HN := Lib.hid (show ∀ j c, j < pos + 1 → s.data.toList[j]? = some c → digit c = true from fun j c hj hc => by
          by_cases e : j = pos
          · subst e
            obtain rfl := Option.some.inj (hg.symm.trans hc)
            exact hd
          · exact HP.out j c (by omega) hc)
        generalize hn : s[pos].toNat = n at *
        have h1 : decide (n < 48) = false := decide_eq_false (by omega)
        have h2 : decide (57 < n) = false := decide_eq_false (by omega)
        have h1' : decide ((n : Int) < 48) = false := decide_eq_false (by omega)
        have h2' : decide (57 < (n : Int)) = false := decide_eq_false (by omega)
        clear hg hd hn
        go_wp2
        go_roundw
        case rel => exact ⟨pos + 1, rfl, by omega, HN.out⟩
        case measure => simp; omega
      | false =>
        have HN := Lib.hid (show ∀ c, s.data.toList[pos]? = some c → digit c = false from fun c hc => by
          obtain rfl := Option.some.inj (hg.symm.trans hc)
          exact hd)
        have hR : ∃ (R K : Nat), (∀ ty, (Instr.next (.pointer (some ⟨w.heap.size, 0, none⟩)) true ty).run Tryz.prog (w.iter s pos) = .ok (.tuple #[.bool true, .int .i64 pos, .int .i32 (R : Int)]) (w.iter s (pos + K))) ∧ (R < 48 ∨ 57 < R) := by
          refine ⟨_, _, fun ty => run_next_any w s pos ty hp, ?_⟩
          by_cases ha : s[pos].toNat < 128
          · rw [decode_ascii s pos hp ha]
            simp only [digit, Bool.and_eq_false_iff, decide_eq_false_iff_not] at hd
            show s[pos].toNat < 48 ∨ 57 < s[pos].toNat
            omega
          · have := (decode_high s pos hp (by omega)).1
            omega
        obtain ⟨R, K, hnx, hR⟩ := hR
        have hb := Lib.hid (iter_below w s (pos + K))
        clear hg hd
        rcases hR with hR | hR
        · have h1 : decide (R < 48) = true := decide_eq_true hR
          have h1' : decide ((R : Int) < 48) = true := decide_eq_true (by omega)
          go_wp2
          go_quiet (fail)
          go_wp2
          go_ret2
          exact two_at pos hle HP.out HN.out (below_drewN hb.out _)
        · have h1 : decide (R < 48) = false := decide_eq_false (by omega)
          have h1' : decide ((R : Int) < 48) = false := decide_eq_false (by omega)
          have h2 : decide (57 < R) = true := decide_eq_true (by omega)
          have h2' : decide (57 < (R : Int)) = true := decide_eq_true (by omega)
          go_wp2
          go_quiet (fail)
          go_wp2
          go_ret2
          exact two_at pos hle HP.out HN.out (below_drewN hb.out _)
    · have hnx : ∀ ty, (Instr.next (.pointer (some ⟨w.heap.size, 0, none⟩)) true ty).run Tryz.prog (w.iter s pos) = _ := fun ty => run_next_end w s pos ty hp
      obtain rfl : pos = s.size := by omega
      go_wp2
      go_ret2
      exact two_end HP.out (iter_below w s _)
end CutI
end Go.Proofs.YtaepfdgfjcdidaaGreatDoor
