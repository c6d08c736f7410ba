/-
  IndexOf and Without, the model's and the program's.
-/
import Derived.Test.YtedechmbondpaaaProg
import Derived.Test.YtedechmbondpaaaStrRow
import Derived.Test.YtedechmbondpaaaNameMath
import Derived.Test.YtedechmbondpaaaHas
import Derived.Test.YtedechmbondpaaaShelf
import Derived.Lib.Hide
namespace Go.Proofs.Ytedechmbondpaaa
open Go.RowKit
namespace StrK
/-- A new slice of these strings has been handed back. -/
def Gave (w : World) (ss : List ByteArray) (e : Ending) (w' : World) : Prop :=
  ∃ A cap, e = .returned (.slice A ss.length cap) ∧ SRow w' A ss ∧ Free w' A ss.length ∧ Below w.heap.size w w' ∧ (∀ a, A = some a → w.heap.size ≤ a.block) ∧ ss.length ≤ cap
end StrK
namespace NameS

theorem idx_hit {ss : List ByteArray} {s : ByteArray} (k : Nat) (h : ss[k]? = some s) (hne : ∀ j, j < k → ss[j]? ≠ some s) : Lib.idxOfS ss s = k := by
  have hk := (List.getElem?_eq_some_iff.1 h).1
  have := Lib.idxOfS_hit ss ss.length k s hk (Nat.le_refl _) (by rw [List.getD, h]; rfl) (fun j hj e => hne j hj (by
    rw [List.getElem?_eq_getElem (by omega)]
    rw [List.getD, List.getElem?_eq_getElem (by omega)] at e
    exact congrArg some e))
  rwa [List.take_length] at this
theorem idx_miss {ss : List ByteArray} {s : ByteArray} (hne : ∀ j, j < ss.length → ss[j]? ≠ some s) : Lib.idxOfS ss s = -1 := by
  have := Lib.idxOfS_miss ss ss.length s (fun j hj e => hne j hj (by
    rw [List.getElem?_eq_getElem hj]
    rw [List.getD, List.getElem?_eq_getElem hj] at e
    exact congrArg some e))
  rwa [List.take_length] at this
theorem idx_pos {ss : List ByteArray} {s : ByteArray} (h : NameM.hasB ss s = true) : 0 ≤ Lib.idxOfS ss s := (Lib.idxOfS_nonneg_iff ss s).2 (NameM.hasB_iff.1 h)
theorem idx_neg {ss : List ByteArray} {s : ByteArray} (h : NameM.hasB ss s = false) : Lib.idxOfS ss s < 0 := by
  rcases Int.lt_or_le (Lib.idxOfS ss s) 0 with h1 | h1
  · exact h1
  · rw [NameM.hasB_iff.2 ((Lib.idxOfS_nonneg_iff ss s).1 h1)] at h; cases h
theorem ret_int {k : IntKind} {a b : Int} (h : a = b) : Ending.returned (.int k a) = .returned (.int k b) := by rw [h]

set_option maxHeartbeats 400000 in
set_option maxRecDepth 100000 in
theorem specIndex (A : Option Addr) (c : Nat) (ss : List ByteArray) (s : ByteArray) (w : World) (hA : StrK.SRow w A ss) (hl : ss.length ≤ 1000000000000) :
    Calls Try.prog 28 #[.slice A ss.length c, .string s] w fun e w' => e = .returned (.int .i64 (Lib.idxOfS ss s)) ∧ w = w' := by
  go_enter Try.func28, Try.ntmps28
  go_wp2
  go_loop [5] (fun i => ∃ k : Nat, k ≤ ss.length ∧ i = .int .i64 k ∧ ∀ j, j < k → ss[j]? ≠ some s) (fun i => ss.length - (intOf i).toNat)
  case atStart => exact ⟨0, Nat.zero_le _, rfl, fun j hj => absurd hj (Nat.not_lt_zero _)⟩
  case round =>
    obtain ⟨k, hk, rfl, hne⟩ := hrel
    have HN := Lib.hid hne
    clear hne
    by_cases hlt : k < ss.length
    · obtain ⟨b, o, rfl, hbl, hc⟩ := hA.at_ hlt
      have hg := List.getElem?_eq_getElem hlt
      generalize ss[k] = t at hc hg
      have HG := Lib.hid hg
      clear hg hA
      go_wp2
      · have heq : (t.toList == s.toList) = true := by assumption
        have e := (Lib.bytes_beq_iff _ _).1 heq
        subst e
        go_ret
        exact ⟨ret_int (idx_hit k HG.out HN.out).symm, rfl⟩
      · have hneq : (t.toList == s.toList) = false := by assumption
        go_round
        case rel =>
          refine ⟨k + 1, by omega, by go_num, fun j hj => ?_⟩
          by_cases e : j = k
          · subst e
            rw [HG.out]
            intro h
            exact (Lib.bytes_beq_false_iff _ _).1 hneq (Option.some.inj h)
          · exact HN.out j (by omega)
        case measure => simp [intOf]; omega
    · go_wp2
      go_ret
      exact ⟨ret_int (idx_miss (fun j hj => HN.out j (by omega))).symm, rfl⟩

theorem libIndex (A : Option Addr) (c : Nat) (ss : List ByteArray) (s : ByteArray) (w : World) (hA : StrK.SRow w A ss) (hl : ss.length ≤ 1000000000000) :
    Calls Try.prog 41 #[.slice A ss.length c, .string s] w fun e w' => e = .returned (.int .i64 (Lib.idxOfS ss s)) ∧ w = w' := by
  by_cases hn : ss = []
  · subst hn
    exact (Try.slices_Index_string_empty A c s w).mono fun e w' ⟨h1, h2⟩ => ⟨h1, h2.symm⟩
  · obtain ⟨b, o, rfl, hb, hc⟩ := hA hn
    refine (Try.slices_Index_string b o ss.length c ss s w (Nat.le_refl _) (by omega) (fun j hj => ?_)).mono fun e w' ⟨h1, h2⟩ => ⟨by rw [h1, List.take_length], h2.symm⟩
    have := hc j ss[j] (List.getElem?_eq_getElem hj)
    rw [this, List.getD, List.getElem?_eq_getElem hj]; rfl

theorem implIndex (A : Option Addr) (c : Nat) (ss : List ByteArray) (s : ByteArray) (w : World) (hA : StrK.SRow w A ss) (hl : ss.length ≤ 1000000000000) :
    Calls Try.prog 17 #[.slice A ss.length c, .string s] w fun e w' => e = .returned (.int .i64 (Lib.idxOfS ss s)) ∧ w = w' := by
  have HL := Lib.hid (libIndex A c ss s w hA hl)
  go_enter Try.func17, Try.ntmps17
  go_wp2_with fail
  refine (Calls.mono HL.out) ?_
  rintro e w1 ⟨rfl, rfl⟩
  go_wp2
  go_ret
  exact ⟨rfl, rfl⟩

theorem stringInfo : (Try.prog.info? 9).map (fun i => (i.zero, i.size, i.bytes)) = some (some (.string ByteArray.empty), 1, 16) := by kernel_rfl

set_option maxHeartbeats 1000000 in
set_option maxRecDepth 100000 in
theorem specWithout (A B : Option Addr) (c d : Nat) (ss rs : List ByteArray) (w : World) (hA : StrK.SRow w A ss) (hB : StrK.SRow w B rs) (hl : ss.length ≤ 100000000) (hr : rs.length ≤ 100000000) :
    Calls Try.prog 35 #[.slice A ss.length c, .slice B rs.length d] w (StrK.Gave w (NameM.wo ss rs)) := by
  obtain ⟨i0, hi, hz0, hz1, hz2⟩ := info_parts stringInfo
  have hhas := fun (s : ByteArray) (W : World) (h : Below w.heap.size w W) => has B d rs s W (hB.below h) (by omega)
  have HH := Lib.hid hhas
  clear hhas
  go_enter Try.func35, Try.ntmps35
  go_wp2
  go_loopw [5, 6] (fun v i wr => ∃ (k : Nat) (done : List ByteArray), k ≤ ss.length ∧ i = .int .i64 k ∧ Hid (done = NameM.wo (ss.take k) rs) ∧ done.length ≤ ss.length ∧
      wr.ownsRow w.heap.size 9 1 v done.length (done.map Value.string) ∧ Below w.heap.size w wr) (fun _ i _ => ss.length - (intOf i).toNat)
  case atStart => exact ⟨0, [], Nat.zero_le _, rfl, Lib.hid rfl, Nat.zero_le _, ⟨by simp, Or.inr ⟨_, 0, #[], rfl, Nat.le_refl _, heap_alloc_new _ _, by simp, by simp, by simp, by simp⟩⟩, (Below.refl _ _).alloc (Nat.le_refl _) _⟩
  case round =>
    obtain ⟨k, done, hk, rfl, hdone, hcnt, hown, hb⟩ := hrel
    have hsz := hb.size
    by_cases hlt : k < ss.length
    · obtain ⟨b, o, rfl, hbl, hc⟩ := (hA.below hb).at_ hlt
      have hg := List.getElem?_eq_getElem hlt
      generalize ss[k] = s at hc hg
      have HG := Lib.hid hg
      clear hg
      have hi0 : (0 : Int) ≤ (k : Int) := by omega
      have hi1 : (k : Int) < (ss.length : Int) := by omega
      have HC := HH.out s wr hb
      cases hx : NameM.hasB rs s with
      | true =>
        rw [hx] at HC
        have HC' := Lib.hid HC
        have HD : Hid (done = NameM.wo (ss.take (k + 1)) rs) := Lib.hid (by rw [NameM.wo_skip HG.out hx]; exact hdone.out)
        clear HC hx
        go_wp2_with fail
        refine (Calls.mono HC'.out) ?_
        rintro e w1 ⟨rfl, rfl⟩
        go_wp2
        go_roundw
        case rel => exact ⟨k + 1, done, by omega, by go_num, HD, hcnt, hown, hb⟩
        case measure => simp [intOf]; omega
      | false =>
        rw [hx] at HC
        have HC' := Lib.hid HC
        have HD : Hid (done ++ [s] = NameM.wo (ss.take (k + 1)) rs) := Lib.hid (by rw [NameM.wo_keep HG.out hx, ← hdone.out])
        have hl2 : (done ++ [s]).length ≤ ss.length := by rw [HD.out]; exact NameM.wo_take_length _ _ _
        simp only [List.length_append, List.length_cons, List.length_nil] at hl2
        clear HC hx
        go_wp2_with fail
        refine (Calls.mono HC'.out) ?_
        rintro e w1 ⟨rfl, rfl⟩
        go_wp2_with (at_builtin; refine wpList_append_own _ rfl (.tmp 21) (.tmp 26) 24 rfl w.heap.size 9 i0 (.string ByteArray.empty) 1 16 Try.underlying24 hi hz0 hz1 hz2 rfl (by decide) _ _ _ rfl (hown.alloc _) ⟨wr.heap.size, 0, none⟩ 1 1 [.string s] rfl rfl (cell_one_new _ _ _) (by simp [Value.oneCell']) (by unfold maxLen; omega) (by omega) (by simp <;> omega) ?_; intro v1 w1 hown1 hgrow _)
        have hb1 : Below w.heap.size w w1 := (hb.alloc hb.size _).grown hgrow (by simp <;> omega) (fun j hj => (hown.lt j hj).1)
        have hown2 : w1.ownsRow w.heap.size 9 1 v1 (done ++ [s]).length ((done ++ [s]).map Value.string) := by simpa using hown1
        clear hown1 hown
        go_wp2
        go_roundw
        case rel => exact ⟨k + 1, done ++ [s], by omega, by go_num, HD, by simp; omega, hown2, hb1⟩
        case measure => simp [intOf]; omega
    · have hk' : k = ss.length := by omega
      have hfin : done = NameM.wo ss rs := by rw [hdone.out, hk', List.take_length]
      go_wp2
      go_ret
      subst hfin
      obtain ⟨A', cap, rfl, h1, h2, h3, h4⟩ := StrK.of_own hown
      exact ⟨A', cap, rfl, h1, h2, hb, h3, h4⟩

set_option maxHeartbeats 1000000 in
set_option maxRecDepth 100000 in
theorem implWithout (A B : Option Addr) (c d : Nat) (ss rs : List ByteArray) (w : World) (hA : StrK.SRow w A ss) (hB : StrK.SRow w B rs) (hl : ss.length ≤ 100000000) (hr : rs.length ≤ 100000000) :
    Calls Try.prog 23 #[.slice A ss.length c, .slice B rs.length d] w (StrK.Gave w (NameM.wo ss rs)) := by
  obtain ⟨i0, hi, hz0, hz1, hz2⟩ := info_parts stringInfo
  have hhas := fun (s : ByteArray) (W : World) (h : Below w.heap.size w W) => implIndex B d rs s W (hB.below h) (by omega)
  have HH := Lib.hid hhas
  clear hhas
  go_enter Try.func23, Try.ntmps23
  go_wp2
  go_loopw [5, 10] (fun v i wr => ∃ (k : Nat) (done : List ByteArray), k ≤ ss.length ∧ i = .int .i64 k ∧ Hid (done = NameM.wo (ss.take k) rs) ∧ done.length ≤ ss.length ∧
      wr.ownsRow w.heap.size 9 1 v done.length (done.map Value.string) ∧ Below w.heap.size w wr) (fun _ i _ => ss.length - (intOf i).toNat)
  case atStart => exact ⟨0, [], Nat.zero_le _, rfl, Lib.hid rfl, Nat.zero_le _, ⟨by simp, Or.inl ⟨rfl, rfl⟩⟩, Below.refl _ _⟩
  case round =>
    obtain ⟨k, done, hk, rfl, hdone, hcnt, hown, hb⟩ := hrel
    have hsz := hb.size
    by_cases hlt : k < ss.length
    · obtain ⟨b, o, rfl, hbl, hc⟩ := (hA.below hb).at_ hlt
      have hg := List.getElem?_eq_getElem hlt
      generalize ss[k] = s at hc hg
      have HG := Lib.hid hg
      clear hg
      have hi0 : (0 : Int) ≤ (k : Int) := by omega
      have hi1 : (k : Int) < (ss.length : Int) := by omega
      have HC' := Lib.hid (HH.out s wr hb)
      cases hx : NameM.hasB rs s with
      | true =>
        have hp := idx_pos hx
        have HD : Hid (done = NameM.wo (ss.take (k + 1)) rs) := Lib.hid (by rw [NameM.wo_skip HG.out hx]; exact hdone.out)
        generalize Lib.idxOfS rs s = ix at hp HC'
        clear hx
        go_wp2_with fail
        refine (Calls.mono HC'.out) ?_
        rintro e w1 ⟨rfl, rfl⟩
        go_wp2
        go_roundw
        case rel => exact ⟨k + 1, done, by omega, by go_num, HD, hcnt, hown, hb⟩
        case measure => simp [intOf]; omega
      | false =>
        have hp := idx_neg hx
        have HD : Hid (done ++ [s] = NameM.wo (ss.take (k + 1)) rs) := Lib.hid (by rw [NameM.wo_keep HG.out hx, ← hdone.out])
        have hl2 : (done ++ [s]).length ≤ ss.length := by rw [HD.out]; exact NameM.wo_take_length _ _ _
        simp only [List.length_append, List.length_cons, List.length_nil] at hl2
        generalize Lib.idxOfS rs s = ix at hp HC'
        clear hx
        go_wp2_with fail
        refine (Calls.mono HC'.out) ?_
        rintro e w1 ⟨rfl, rfl⟩
        go_wp2_with (at_builtin; refine wpList_append_own _ rfl (.tmp 18) (.tmp 20) 24 rfl w.heap.size 9 i0 (.string ByteArray.empty) 1 16 Try.underlying24 hi hz0 hz1 hz2 rfl (by decide) _ _ _ rfl (hown.alloc _) ⟨wr.heap.size, 0, none⟩ 1 1 [.string s] rfl rfl (cell_one_new _ _ _) (by simp [Value.oneCell']) (by unfold maxLen; omega) (by omega) (by simp <;> omega) ?_; intro v1 w1 hown1 hgrow _)
        have hb1 : Below w.heap.size w w1 := (hb.alloc hb.size _).grown hgrow (by simp <;> omega) (fun j hj => (hown.lt j hj).1)
        have hown2 : w1.ownsRow w.heap.size 9 1 v1 (done ++ [s]).length ((done ++ [s]).map Value.string) := by simpa using hown1
        clear hown1 hown
        go_wp2
        go_roundw
        case rel => exact ⟨k + 1, done ++ [s], by omega, by go_num, HD, by simp; omega, hown2, hb1⟩
        case measure => simp [intOf]; omega
    · have hk' : k = ss.length := by omega
      have hfin : done = NameM.wo ss rs := by rw [hdone.out, hk', List.take_length]
      go_wp2
      go_ret
      subst hfin
      obtain ⟨A', cap, rfl, h1, h2, h3, h4⟩ := StrK.of_own hown
      exact ⟨A', cap, rfl, h1, h2, hb, h3, h4⟩

end NameS
end Go.Proofs.Ytedechmbondpaaa
