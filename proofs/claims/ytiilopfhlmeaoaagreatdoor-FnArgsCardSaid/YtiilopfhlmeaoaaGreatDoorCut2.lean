import Derived.Test.YtiilopfhlmeaoaaGreatDoorTextImpl
import Derived.WalkSmall
import Derived.Laws.RangeAny
import Derived.Lib.Strings
import Derived.Deep.QuietTactic
import Derived.BigQuiet
import Derived.Test.YtiilopfhlmeaoaaGreatDoorStrRow
import Derived.Test.YtiilopfhlmeaoaaGreatDoorNameOps
import Derived.OwnWalk
/-
  impl.cutDigits: the digits at the start of a text, and the rest.
-/
namespace Go.Proofs.YtiilopfhlmeaoaaGreatDoor
open Go.RowKit
namespace CutI
open TextM TextI NameM

theorem at_data (s : ByteArray) (k : Nat) (h : k < s.size) : s.data.toList[k]? = some s[k] := by
  rw [List.getElem?_eq_getElem (by simpa using h)]; rfl
theorem span_at {p : UInt8 → Bool} : ∀ (l : List UInt8) (k : Nat), k ≤ l.length → (∀ j c, j < k → l[j]? = some c → p c = true) → (∀ c, l[k]? = some c → p c = false) → l.takeWhile p = l.take k ∧ l.dropWhile p = l.drop k
  | [], k, h, _, _ => by
    have : k = 0 := by simpa using h
    subst this; exact ⟨rfl, rfl⟩
  | a :: l, 0, _, _, h => by
    have := h a rfl
    simp [this]
  | a :: l, k + 1, hk, h1, h2 => by
    have ha := h1 0 a (by omega) rfl
    have ih := span_at l k (by simpa using hk) (fun j c hj hc => h1 (j + 1) c (by omega) (by simpa using hc)) (fun c hc => h2 c (by simpa using hc))
    simp [ha, ih]
theorem upto_eq (s : ByteArray) (k : Nat) : s.extract 0 k = ⟨(s.data.toList.take k).toArray⟩ := NameM.toList_inj (by rw [Lib.extract_data]; simp)
theorem from_eq (s : ByteArray) (k : Nat) : s.extract k s.size = ⟨(s.data.toList.drop k).toArray⟩ := NameM.toList_inj (by rw [Lib.extract_data]; simp [List.take_of_length_le])

/-- What is handed back. -/
def Two (w : World) (s : ByteArray) (e : Ending) (w' : World) : Prop :=
  e = .returned (.tuple #[.string ⟨(s.data.toList.takeWhile digit).toArray⟩, .string ⟨(s.data.toList.dropWhile digit).toArray⟩]) ∧ Below w.heap.size w w'
theorem two_at {w w' : World} {s : ByteArray} (k : Nat) (hk : k ≤ s.size) (h1 : ∀ j c, j < k → s.data.toList[j]? = some c → digit c = true) (h2 : ∀ c, s.data.toList[k]? = some c → digit c = false) (hb : Below w.heap.size w w') :
    Two w s (.returned (.tuple #[.string (s.extract 0 k), .string (s.extract k s.size)])) w' := by
  have h := span_at s.data.toList k (by rw [size_list]; exact hk) h1 h2
  exact ⟨by rw [h.1, h.2, upto_eq, from_eq], hb⟩
theorem two_end {w w' : World} {s : ByteArray} (h1 : ∀ j c, j < s.size → s.data.toList[j]? = some c → digit c = true) (hb : Below w.heap.size w w') :
    Two w s (.returned (.tuple #[.string s, .string ⟨#[]⟩])) w' := by
  have h := span_at s.data.toList s.size (by rw [size_list]; exact Nat.le_refl _) h1 (fun c hc => by
    rw [List.getElem?_eq_none (by rw [size_list]; exact Nat.le_refl _)] at hc; cases hc)
  refine ⟨?_, hb⟩
  rw [h.1, h.2, List.take_of_length_le (by rw [size_list]; exact Nat.le_refl _), List.drop_of_length_le (by rw [size_list]; exact Nat.le_refl _), mk_list]

theorem iter_below (w : World) (s : ByteArray) (pos : Nat) : Below w.heap.size w (w.iter s pos) := (Below.refl _ _).alloc (Nat.le_refl _) _

set_option maxHeartbeats 1000000 in
set_option maxRecDepth 100000 in
theorem digits (s : ByteArray) (_hs : s.size ≤ 1048576) (w : World) :
    Calls Tryz.prog 86 #[.string s] w (Two w s) := by
  go_enter Tryz.func86, Tryz.ntmps86
  go_wp2
  go_loopw [4] (fun _ wr => ∃ pos : Nat, wr = w.iter s pos ∧ pos ≤ s.size ∧ ∀ j c, j < pos → s.data.toList[j]? = some c → digit c = true) (fun _ wr => s.size - wr.iterPos w.heap.size)
  case atStart => exact ⟨0, rfl, Nat.zero_le _, fun j c hj => absurd hj (Nat.not_lt_zero _)⟩
  case round =>
    obtain ⟨pos, rfl, hle, hpre⟩ := hrel
    have HP := Lib.hid hpre
    clear hpre
    by_cases hp : pos < s.size
    · have hg := at_data s pos hp
      have hi0 : (0 : Int) ≤ (pos : Int) := by omega
      have hi1 : (pos : Int) ≤ (s.size : Int) := by omega
      cases hd : digit s[pos] with
      | true =>
        have hdd : 48 ≤ s[pos].toNat ∧ s[pos].toNat ≤ 57 := by
          simp only [digit, Bool.and_eq_true, decide_eq_true_eq] at hd
          omega
        have hnx : ∀ ty, (Instr.next (.pointer (some ⟨w.heap.size, 0, none⟩)) true ty).run Tryz.prog (w.iter s pos) = _ := fun ty => run_next_ascii w s pos ty hp (by omega)
        have HN := Lib.hid (show ∀ j c, j < pos + 1 → s.data.toList[j]? = some c → digit c = true from fun j c hj hc => by
          by_cases e : j = pos
          · subst e
            obtain rfl := Option.some.inj (hg.symm.trans hc)
            exact hd
          · exact HP.out j c (by omega) hc)
        generalize hn : s[pos].toNat = n at *
        have h1 : decide (n < 48) = false := decide_eq_false (by omega)
        have h2 : decide (57 < n) = false := decide_eq_false (by omega)
        have h1' : decide ((n : Int) < 48) = false := decide_eq_false (by omega)
        have h2' : decide (57 < (n : Int)) = false := decide_eq_false (by omega)
        clear hg hd hn
        go_wp2
        go_roundw
        case rel => exact ⟨pos + 1, rfl, by omega, HN.out⟩
        case measure => simp; omega
      | false =>
        have HN := Lib.hid (show ∀ c, s.data.toList[pos]? = some c → digit c = false from fun c hc => by
          obtain rfl := Option.some.inj (hg.symm.trans hc)
          exact hd)
        have hR : ∃ (R K : Nat), (∀ ty, (Instr.next (.pointer (some ⟨w.heap.size, 0, none⟩)) true ty).run Tryz.prog (w.iter s pos) = .ok (.tuple #[.bool true, .int .i64 pos, .int .i32 (R : Int)]) (w.iter s (pos + K))) ∧ (R < 48 ∨ 57 < R) := by
          refine ⟨_, _, fun ty => run_next_any w s pos ty hp, ?_⟩
          by_cases ha : s[pos].toNat < 128
          · rw [decode_ascii s pos hp ha]
            simp only [digit, Bool.and_eq_false_iff, decide_eq_false_iff_not] at hd
            show s[pos].toNat < 48 ∨ 57 < s[pos].toNat
            omega
          · have := (decode_high s pos hp (by omega)).1
            omega
        obtain ⟨R, K, hnx, hR⟩ := hR
        have hb := Lib.hid (iter_below w s (pos + K))
        clear hg hd
        rcases hR with hR | hR
        · have h1 : decide (R < 48) = true := decide_eq_true hR
          have h1' : decide ((R : Int) < 48) = true := decide_eq_true (by omega)
          go_wp2
          go_quiet (fail)
          go_wp2
          go_ret2
          exact two_at pos hle HP.out HN.out (below_drewN hb.out _)
        · have h1 : decide (R < 48) = false := decide_eq_false (by omega)
          have h1' : decide ((R : Int) < 48) = false := decide_eq_false (by omega)
          have h2 : decide (57 < R) = true := decide_eq_true (by omega)
          have h2' : decide (57 < (R : Int)) = true := decide_eq_true (by omega)
          go_wp2
          go_quiet (fail)
          go_wp2
          go_ret2
          exact two_at pos hle HP.out HN.out (below_drewN hb.out _)
    · have hnx : ∀ ty, (Instr.next (.pointer (some ⟨w.heap.size, 0, none⟩)) true ty).run Tryz.prog (w.iter s pos) = _ := fun ty => run_next_end w s pos ty hp
      obtain rfl : pos = s.size := by omega
      go_wp2
      go_ret2
      exact two_end HP.out (iter_below w s _)
end CutI
end Go.Proofs.YtiilopfhlmeaoaaGreatDoor

/-
  impl.cutAtSigns: a text cut in front of its signs.
-/
namespace Go.Proofs.YtiilopfhlmeaoaaGreatDoor
open Go.RowKit
namespace CutI
open TextM TextI NameM

/-- All bytes are those of runes of one byte. -/
def Asc (s : ByteArray) : Prop := ∀ c ∈ s.data.toList, c.toNat < 128
theorem asc_at {s : ByteArray} (h : Asc s) (pos : Nat) (hp : pos < s.size) : s[pos].toNat < 128 := h _ (List.mem_of_getElem? (at_data s pos hp))
theorem drop_at (s : ByteArray) (pos : Nat) (hp : pos < s.size) : s.data.toList.drop pos = s[pos] :: s.data.toList.drop (pos + 1) := by
  rw [List.drop_eq_getElem_cons (by rw [size_list]; exact hp)]; rfl
def cur (s : ByteArray) (st pos : Nat) : List UInt8 := (s.data.toList.drop st).take (pos - st)
theorem cur_snoc (s : ByteArray) (st pos : Nat) (h : st ≤ pos) (hp : pos < s.size) : cur s st (pos + 1) = cur s st pos ++ [s[pos]] := by
  unfold cur
  rw [show pos + 1 - st = (pos - st) + 1 by omega, List.take_add_one, List.getElem?_drop, show st + (pos - st) = pos by omega, at_data s pos hp]
  rfl
theorem cur_one (s : ByteArray) (pos : Nat) (hp : pos < s.size) : cur s pos (pos + 1) = [s[pos]] := by
  rw [cur_snoc s pos pos (Nat.le_refl _) hp]
  unfold cur
  simp
theorem cur_ne (s : ByteArray) (st pos : Nat) (h : st < pos) (hp : pos ≤ s.size) : cur s st pos ≠ [] := by
  intro e
  have := congrArg List.length e
  unfold cur at this
  rw [List.length_take, List.length_drop, size_list] at this
  simp at this
  omega
theorem cur_eq (s : ByteArray) (st pos : Nat) : s.extract st pos = ⟨(cur s st pos).toArray⟩ := Lib.extract_eq s st pos
theorem cur_size (s : ByteArray) (st pos : Nat) : (s.extract st pos).size ≤ s.size := by
  rw [cur_eq, size_mk]
  unfold cur
  rw [List.length_take, List.length_drop, size_list]
  omega
/-- What has been cut, and what is still to be. -/
def Sofar (s : ByteArray) (P : List ByteArray) (st pos : Nat) : Prop := Asc s → pos ≤ s.size ∧ (P.map fun p => p.data.toList) ++ cutGo (cur s st pos) (s.data.toList.drop pos) = cutGo [] s.data.toList
theorem sofar_skip {s : ByteArray} {P : List ByteArray} {st pos K : Nat} (h : Sofar s P st pos) (hst : st ≤ pos) (hp : pos < s.size) (hK : Asc s → K = 1) (hc : ¬ (isSig s[pos] = true ∧ st < pos)) : Sofar s P st (pos + K) := fun ha => by
  obtain ⟨h1, h2⟩ := h ha
  rw [hK ha]
  refine ⟨by omega, ?_⟩
  rw [← h2, drop_at s pos hp, cutGo, if_neg, cur_snoc s st pos hst hp]
  rintro ⟨a, b⟩
  refine hc ⟨a, ?_⟩
  rcases Nat.lt_or_ge st pos with h3 | h3
  · exact h3
  · exfalso; apply b; unfold cur; rw [show pos - st = 0 by omega]; rfl
theorem sofar_push {s : ByteArray} {P : List ByteArray} {st pos K : Nat} (h : Sofar s P st pos) (hst : st < pos) (hp : pos < s.size) (hK : Asc s → K = 1) (hc : isSig s[pos] = true) : Sofar s (P ++ [s.extract st pos]) pos (pos + K) := fun ha => by
  obtain ⟨h1, h2⟩ := h ha
  rw [hK ha]
  refine ⟨by omega, ?_⟩
  rw [← h2, drop_at s pos hp, cutGo, if_pos ⟨hc, cur_ne s st pos hst h1⟩, cur_one s pos hp, cur_eq]
  simp
theorem sofar_end {s : ByteArray} {P : List ByteArray} {st pos : Nat} (h : Sofar s P st pos) (hp : s.size ≤ pos) : Asc s → (P ++ [s.extract st s.size]).map (fun p => p.data.toList) = cutGo [] s.data.toList := fun ha => by
  obtain ⟨h1, h2⟩ := h ha
  obtain rfl : pos = s.size := by omega
  rw [← h2, List.drop_of_length_le (by rw [size_list]; exact Nat.le_refl _), cutGo, cur_eq]
  simp

/-- The parts of a text. -/
def Parts (s : ByteArray) (w : World) (e : Ending) (w' : World) : Prop :=
  ∃ P : List ByteArray, StrK.Gave w P e w' ∧ P.length ≤ s.size + 1 ∧ (∀ p ∈ P, p.size ≤ s.size) ∧ (Asc s → P.map (fun p => p.data.toList) = cutGo [] s.data.toList)

theorem rune_of (s : ByteArray) (pos : Nat) (hp : pos < s.size) : ∃ R K : Nat, (Utf8.decode s pos) = (R, K) ∧ 1 ≤ K ∧ (Asc s → K = 1) ∧ (R = 43 ↔ s[pos] = 43) ∧ (R = 45 ↔ s[pos] = 45) := by
  by_cases ha : s[pos].toNat < 128
  · refine ⟨s[pos].toNat, 1, decode_ascii s pos hp ha, Nat.le_refl _, fun _ => rfl, ?_, ?_⟩
    · constructor
      · intro h; exact UInt8.toNat_inj.1 (by rw [h]; rfl)
      · intro h; rw [h]; rfl
    · constructor
      · intro h; exact UInt8.toNat_inj.1 (by rw [h]; rfl)
      · intro h; rw [h]; rfl
  · have h := decode_high s pos hp (by omega)
    refine ⟨(Utf8.decode s pos).1, (Utf8.decode s pos).2, rfl, h.2, fun h2 => absurd (asc_at h2 pos hp) ha, ?_, ?_⟩
    · constructor
      · intro h3; omega
      · intro h3; rw [h3] at ha; exact absurd (by decide) ha
    · constructor
      · intro h3; omega
      · intro h3; rw [h3] at ha; exact absurd (by decide) ha
theorem strInfo : (Tryz.prog.info? 9).map (fun i => (i.zero, i.size, i.bytes)) = some (some (.string ByteArray.empty), 1, 16) := by kernel_rfl

set_option maxHeartbeats 2000000 in
set_option maxRecDepth 100000 in
theorem atSigns (s : ByteArray) (hs : s.size ≤ 1048576) (w : World) :
    Calls Tryz.prog 62 #[.string s] w (Parts s w) := by
  obtain ⟨i0, hi, hz0, hz1, hz2⟩ := info_parts strInfo
  go_enter Tryz.func62, Tryz.ntmps62
  go_wp2
  go_loopw [3, 4] (fun v a wr => ∃ (P : List ByteArray) (st pos : Nat), wr.heap[w.heap.size]? = some (.stringIter s pos) ∧ a = .int .i64 st ∧ (st < pos ∨ (st = 0 ∧ pos = 0)) ∧ st ≤ s.size ∧ P.length ≤ st ∧ (∀ p ∈ P, p.size ≤ s.size) ∧
      wr.ownsRow (w.heap.size + 1) 9 1 v P.length (P.map Value.string) ∧ Below w.heap.size w wr ∧ w.heap.size < wr.heap.size ∧ Sofar s P st pos) (fun _ _ wr => s.size - wr.iterPos w.heap.size)
  case atStart => exact ⟨[], 0, 0, World.iter_heap w s 0, rfl, Or.inr ⟨rfl, rfl⟩, Nat.zero_le _, Nat.le_refl _, (fun p hp => by cases hp), World.ownsRow_nil _ _ _ _, iter_below w s 0, by simp [World.iter], fun _ => ⟨Nat.zero_le _, by simp [cur]⟩⟩
  case round =>
    obtain ⟨P, st, pos, hit, rfl, hsp, hst, hPl, hPs, hown, hb, hsz, hso⟩ := hrel
    have hm0 : wr.iterPos w.heap.size = pos := iterPos_of hit
    have HPS := Lib.hid hPs
    have HSO := Lib.hid hso
    have HW := Lib.hid hown
    have HB := Lib.hid hb
    clear hPs hso hown hb
    by_cases hp : pos < s.size
    · obtain ⟨R, K, hRK, hK1, hKa, hR43, hR45⟩ := rune_of s pos hp
      have hnx : ∀ ty, (Instr.next (.pointer (some ⟨w.heap.size, 0, none⟩)) true ty).run Tryz.prog wr = .ok (.tuple #[.bool true, .int .i64 pos, .int .i32 (R : Int)]) (wr.iterAt w.heap.size s (pos + K)) := fun ty => by
        have := Lib.run_next_any_at (P := Tryz.prog) wr w.heap.size s pos ty hit hp
        rw [hRK] at this
        exact this
      have hit2 := Lib.iterAt_heap wr w.heap.size s pos (pos + K) hit
      have HB2 := Lib.hid (Lib.below_iterAt HB.out (k := w.heap.size) (Nat.le_refl _) s (pos + K))
      have HW2 := Lib.hid (ownsRow_iterAt HW.out (Nat.lt_succ_self _) s (pos + K))
      have hsz2 : w.heap.size < (wr.iterAt w.heap.size s (pos + K)).heap.size := by rw [Lib.iterAt_size]; exact hsz
      generalize wr.iterAt w.heap.size s (pos + K) = W at *
      have hskip := Lib.hid (fun hc => sofar_skip HSO.out (by omega) hp hKa hc)
      have hpush := Lib.hid (fun h1 hc => sofar_push HSO.out h1 hp hKa hc)
      have hIT := Lib.hid hit2
      have hmeas : W.iterPos w.heap.size = pos + K := iterPos_of hit2
      have HM := Lib.hid hmeas
      have HM0 := Lib.hid hm0
      clear hit hit2 hRK hKa HW HB hmeas hm0
      by_cases hp0 : pos = 0
      · have h0 : decide (0 < pos) = false := decide_eq_false (by omega)
        have h0' : decide ((0 : Int) < (pos : Int)) = false := decide_eq_false (by omega)
        have HS := Lib.hid (hskip.out (fun h => by omega))
        clear hskip hpush hR43 hR45
        go_wp2
        go_roundw
        case rel => exact ⟨P, st, pos + K, hIT.out, rfl, Or.inl (by omega), hst, hPl, HPS.out, HW2.out, HB2.out, hsz2, HS.out⟩
        case measure => rw [HM.out, HM0.out]; omega
      · have h0 : decide (0 < pos) = true := decide_eq_true (by omega)
        have h0' : decide ((0 : Int) < (pos : Int)) = true := decide_eq_true (by omega)
        have hlt : st < pos := by omega
        by_cases hsg : R = 43 ∨ R = 45
        · have HS := Lib.hid (hpush.out hlt (by unfold isSig; rcases hsg with h | h; (· rw [hR43.1 h]; rfl); (· rw [hR45.1 h]; rfl)))
          clear hskip hpush hR43 hR45
          have hb0 : (0 : Int) ≤ (st : Int) := by omega
          have hb1 : (st : Int) ≤ (pos : Int) := by omega
          have hb2 : (pos : Int) ≤ (s.size : Int) := by omega
          have hPl2 : P.length ≤ 1048576 := by omega
          have HC := Lib.hid (cur_size s st pos)
          rcases hsg with rfl | rfl
          all_goals
            go_wp2_with (at_builtin; go_loud (refine wpList_append_own _ rfl (.tmp 23) (.tmp 28) 34 rfl (w.heap.size + 1) 9 i0 (.string ByteArray.empty) 1 16 Tryz.underlying34 hi hz0 hz1 hz2 rfl (by decide) _ _ _ rfl (HW2.out.alloc _) ⟨W.heap.size, 0, none⟩ 1 1 [.string (s.extract st pos)] rfl rfl (cell_one_new _ _ _) (by simp [Value.oneCell']) (by unfold maxLen; omega) (by omega) (by simp <;> omega) ?_); intro v1 w1 hown1 hgrow _)
            have hb3 : Below w.heap.size w w1 := (HB2.out.alloc HB2.out.size _).grown hgrow (by simp <;> omega) (fun j hj => by have := (HW2.out.lt j hj).1; omega)
            have hit3 : w1.heap[w.heap.size]? = some (.stringIter s (pos + K)) := by
              rw [hgrow.block w.heap.size (by simp; omega) (fun e => by have := (HW2.out.lt _ e.symm).1; omega), Below.heap_alloc _ _ _ hsz2]
              exact hIT.out
            have hsz3 : w.heap.size < w1.heap.size := by have := hgrow.size; simp at this; omega
            have hown2 : w1.ownsRow (w.heap.size + 1) 9 1 v1 (P ++ [s.extract st pos]).length ((P ++ [s.extract st pos]).map Value.string) := by simpa using hown1
            have hl2 : (P ++ [s.extract st pos]).length ≤ pos := by simp; omega
            have hps2 : ∀ p ∈ P ++ [s.extract st pos], p.size ≤ s.size := fun p hp => by
              rcases List.mem_append.1 hp with h | h
              · exact HPS.out p h
              · rw [List.mem_singleton.1 h]; exact HC.out
            have HM3 := Lib.hid (iterPos_of hit3)
            have HI3 := Lib.hid hit3
            have HO3 := Lib.hid hown2
            have HP3 := Lib.hid hps2
            have HL3 := Lib.hid hl2
            have HB3 := Lib.hid hb3
            clear hown1 hgrow hit3 hown2 hps2 hl2 hb3
            generalize P ++ [s.extract st pos] = P2 at *
            go_wp2
            go_roundw
            case rel => exact ⟨P2, pos, pos + K, HI3.out, rfl, Or.inl (by omega), by omega, HL3.out, HP3.out, HO3.out, HB3.out, hsz3, HS.out⟩
            case measure => rw [HM3.out, HM0.out]; omega
        · have h43 : ((R : Int) == 43) = false := beq_eq_false_iff_ne.2 (by omega)
          have h45 : ((R : Int) == 45) = false := beq_eq_false_iff_ne.2 (by omega)
          have h43' : (R == 43) = false := beq_eq_false_iff_ne.2 (by omega)
          have h45' : (R == 45) = false := beq_eq_false_iff_ne.2 (by omega)
          have HS := Lib.hid (hskip.out (fun h => by
            have h1 := h.1
            unfold isSig at h1
            simp only [Bool.or_eq_true, beq_iff_eq] at h1
            rcases h1 with h1 | h1
            · exact hsg (Or.inl (hR43.2 h1))
            · exact hsg (Or.inr (hR45.2 h1))))
          clear hskip hpush hR43 hR45
          go_wp2
          go_roundw
          case rel => exact ⟨P, st, pos + K, hIT.out, rfl, Or.inl (by omega), hst, hPl, HPS.out, HW2.out, HB2.out, hsz2, HS.out⟩
          case measure => rw [HM.out, HM0.out]; omega
    · have hnx : ∀ ty, (Instr.next (.pointer (some ⟨w.heap.size, 0, none⟩)) true ty).run Tryz.prog wr = _ := fun ty => Lib.run_next_end_at (P := Tryz.prog) wr w.heap.size s pos ty hit hp
      have HS := Lib.hid (sofar_end HSO.out (by omega))
      have HC := Lib.hid (cur_size s st s.size)
      have hb0 : (0 : Int) ≤ (st : Int) := by omega
      have hb1 : (st : Int) ≤ (s.size : Int) := by omega
      have hPl2 : P.length ≤ 1048576 := by omega
      clear hit hm0
      go_wp2_with (at_builtin; go_loud (refine wpList_append_own _ rfl (.tmp 31) (.tmp 35) 34 rfl (w.heap.size + 1) 9 i0 (.string ByteArray.empty) 1 16 Tryz.underlying34 hi hz0 hz1 hz2 rfl (by decide) _ _ _ rfl (HW.out.alloc _) ⟨wr.heap.size, 0, none⟩ 1 1 [.string (s.extract st s.size)] rfl rfl (cell_one_new _ _ _) (by simp [Value.oneCell']) (by unfold maxLen; omega) (by omega) (by simp <;> omega) ?_); intro v1 w1 hown1 hgrow _)
      have hb3 : Below w.heap.size w w1 := (HB.out.alloc HB.out.size _).grown hgrow (by simp <;> omega) (fun j hj => by have := (HW.out.lt j hj).1; omega)
      have hown2 : w1.ownsRow (w.heap.size + 1) 9 1 v1 (P ++ [s.extract st s.size]).length ((P ++ [s.extract st s.size]).map Value.string) := by simpa using hown1
      have hl2 : (P ++ [s.extract st s.size]).length ≤ s.size + 1 := by simp; omega
      have hps2 : ∀ p ∈ P ++ [s.extract st s.size], p.size ≤ s.size := fun p hp => by
        rcases List.mem_append.1 hp with h | h
        · exact HPS.out p h
        · rw [List.mem_singleton.1 h]; exact HC.out
      clear hown1 hgrow
      go_wp2
      go_ret
      obtain ⟨A', cap, rfl, h1, h2, h3, h4⟩ := StrK.of_own hown2
      exact ⟨_, ⟨A', cap, rfl, h1, h2, hb3, fun a e => by have := h3 a e; omega, h4⟩, hl2, hps2, HS.out⟩
end CutI
end Go.Proofs.YtiilopfhlmeaoaaGreatDoor
