import Derived.Test.YtjjhpabmhnincaaGreatDoorArgMath2
import Derived.Test.YtjjhpabmhnincaaGreatDoorKit
import Derived.Test.YtjjhpabmhnincaaGreatDoorStrRow
import Derived.Lib.Hide
import Derived.Test.YtjjhpabmhnincaaGreatDoorShelf
import Derived.Lib.IndexBytes
import Derived.Lib.Strings
/-
  SplitByte, the model's and the program's: the parts 'SplitM.spB'.
-/
namespace Go.Proofs.YtjjhpabmhnincaaGreatDoor
open Go.RowKit
namespace SplitS
open SplitM

/-- What the loop knows at place k, the part begun at f. -/
def Inv (c : UInt8) (l : List UInt8) (k f : Nat) (done : List (List UInt8)) : Prop :=
  f ≤ k ∧ ((k ≤ l.length ∧ done ++ sp c (l.drop f) = sp c l ∧ c ∉ (l.drop f).take (k - f)) ∨ (k = l.length + 1 ∧ done = sp c l))

theorem inv_start (c : UInt8) (l : List UInt8) : Inv c l 0 0 [] := ⟨Nat.le_refl _, Or.inl ⟨Nat.zero_le _, by simp, by simp⟩⟩

theorem take_next (l : List UInt8) (f k : Nat) (hf : f ≤ k) (hk : k < l.length) : (l.drop f).take (k + 1 - f) = (l.drop f).take (k - f) ++ [l[k]] := by
  rw [show k + 1 - f = (k - f) + 1 by omega, List.take_add_one]
  congr 1
  rw [List.getElem?_drop, show f + (k - f) = k by omega, List.getElem?_eq_getElem hk]; rfl

theorem inv_miss {c : UInt8} {l : List UInt8} {k f : Nat} {done : List (List UInt8)} (h : Inv c l k f done) (hk : k < l.length) (hne : l[k] ≠ c) : Inv c l (k + 1) f done := by
  obtain ⟨hf, h | h⟩ := h
  · obtain ⟨_, h1, h2⟩ := h
    refine ⟨by omega, Or.inl ⟨by omega, h1, ?_⟩⟩
    rw [take_next l f k hf hk, List.mem_append]
    rintro (h | h)
    · exact h2 h
    · exact hne (List.mem_singleton.1 h).symm
  · omega

theorem inv_hit {c : UInt8} {l : List UInt8} {k f : Nat} {done : List (List UInt8)} (h : Inv c l k f done) (hk : k < l.length) (he : l[k] = c) : Inv c l (k + 1) (k + 1) (done ++ [(l.drop f).take (k - f)]) := by
  obtain ⟨hf, h | h⟩ := h
  · obtain ⟨_, h1, h2⟩ := h
    refine ⟨Nat.le_refl _, Or.inl ⟨by omega, ?_, by simp⟩⟩
    have e : l.drop f = (l.drop f).take (k - f) ++ c :: l.drop (k + 1) := by
      conv => lhs; rw [← List.take_append_drop (k - f) (l.drop f)]
      rw [List.drop_drop, show f + (k - f) = k by omega, List.drop_eq_getElem_cons hk, he]
    rw [e, sp_hit c _ _ h2] at h1
    rw [List.append_assoc]
    exact h1
  · omega

theorem inv_last {c : UInt8} {l : List UInt8} {n f : Nat} {done : List (List UInt8)} (hn : l.length = n) (h : Inv c l n f done) : Inv c l (n + 1) (n + 1) (done ++ [(l.drop f).take (n - f)]) := by
  subst hn
  obtain ⟨hf, h | h⟩ := h
  · obtain ⟨_, h1, h2⟩ := h
    have e : (l.drop f).take (l.length - f) = l.drop f := List.take_of_length_le (by simp)
    rw [e] at h2 ⊢
    rw [sp_none c _ h2] at h1
    exact ⟨Nat.le_refl _, Or.inr ⟨rfl, h1⟩⟩
  · omega

theorem inv_end {c : UInt8} {l : List UInt8} {n f : Nat} {done : List (List UInt8)} (hn : l.length = n) (h : Inv c l (n + 1) f done) : done = sp c l := by
  subst hn
  obtain ⟨hf, h | h⟩ := h
  · omega
  · exact h.2

theorem inv_count {c : UInt8} {l : List UInt8} {k f : Nat} {done : List (List UInt8)} (h : Inv c l k f done) : done.length ≤ l.length + 1 := by
  have := sp_length_le c l
  obtain ⟨hf, ⟨_, h1, _⟩ | ⟨_, h1⟩⟩ := h
  · have h2 := congrArg List.length h1
    simp only [List.length_append] at h2
    omega
  · rw [h1]; exact this

theorem stringInfo : (Tryz.prog.info? 9).map (fun i => (i.zero, i.size, i.bytes)) = some (some (.string ByteArray.empty), 1, 16) := by kernel_rfl

def Post (c : UInt8) (s : ByteArray) (w : World) (e : Ending) (w' : World) : Prop :=
  ∃ A cap, e = .returned (.slice A (spB c s).length cap) ∧ StrK.SRow w' A (spB c s) ∧ StrK.Free w' A (spB c s).length ∧ Below w.heap.size w w' ∧ (∀ a, A = some a → w.heap.size ≤ a.block) ∧ (spB c s).length ≤ cap

set_option maxHeartbeats 1000000 in
set_option maxRecDepth 100000 in
theorem spec (s : ByteArray) (c : UInt8) (hs : s.size ≤ 1048576) (w : World) :
    Calls Tryz.prog 36 #[.string s, .int .u8 (c.toNat : Int)] w (Post c s w) := by
  obtain ⟨i0, hi, hz0, hz1, hz2⟩ := info_parts stringInfo
  go_enter Tryz.func36, Tryz.ntmps36
  go_wp2
  go_loopw [5, 6, 7] (fun v x i wr => ∃ (k f : Nat) (done : List ByteArray), k ≤ s.size + 1 ∧ f ≤ s.size + 1 ∧ f ≤ k ∧ i = .int .i64 k ∧ x = .int .i64 f ∧ Hid (Inv c s.data.toList k f (done.map (·.data.toList))) ∧
      wr.ownsRow w.heap.size 9 1 v done.length (done.map Value.string) ∧ Below w.heap.size w wr) (fun _ _ i _ => s.size + 1 - (intOf i).toNat)
  case atStart => exact ⟨0, 0, [], by omega, by omega, by omega, rfl, rfl, inv_start _ _, ⟨by simp, Or.inr ⟨_, 0, #[], rfl, Nat.le_refl _, heap_alloc_new _ _, by simp, by simp, by simp, by simp⟩⟩, (Below.refl _ _).alloc (Nat.le_refl _) _⟩
  case round =>
    obtain ⟨k, f, done, hk, hf, hfk, rfl, rfl, hinv, hown, hb⟩ := hrel
    have hcnt : done.length ≤ s.size + 1 := by simpa using inv_count hinv.out
    have hsz := hb.size
    by_cases hend : k = s.size + 1
    · subst hend
      go_wp2
      go_ret
      have hfin : done = spB c s := pieces_inj (by rw [spB_data]; exact inv_end (by simp) hinv.out)
      subst hfin
      obtain ⟨A, cap, rfl, h1, h2, h3, h4⟩ := StrK.of_own hown
      exact ⟨A, cap, rfl, h1, h2, hb, h3, h4⟩
    · by_cases hlast : k = s.size
      · subst hlast
        go_wp2_with (at_builtin; refine wpList_append_own _ rfl (.tmp 26) (.tmp 31) 34 rfl w.heap.size 9 i0 (.string ByteArray.empty) 1 16 Tryz.underlying34 hi hz0 hz1 hz2 rfl (by decide) _ _ _ rfl (hown.alloc _) ⟨wr.heap.size, 0, none⟩ 1 1 [.string (s.extract f s.size)] rfl rfl (cell_one_new _ _ _) (by simp [Value.oneCell']) (by unfold maxLen; omega) (by omega) (by simp <;> omega) ?_; intro v1 w1 hown1 hgrow _)
        have hb1 : Below w.heap.size w w1 := (hb.alloc hb.size _).grown hgrow (by simp <;> omega) (fun j hj => (hown.lt j hj).1)
        have hinv1 : Hid (Inv c s.data.toList (s.size + 1) (s.size + 1) ((done ++ [s.extract f s.size]).map (·.data.toList))) := by
          have h := inv_last (by simp) hinv.out
          rw [List.map_append, List.map_cons, List.map_nil, Lib.extract_data]
          exact h
        have hown2 : w1.ownsRow w.heap.size 9 1 v1 (done ++ [s.extract f s.size]).length ((done ++ [s.extract f s.size]).map Value.string) := by simpa using hown1
        clear hown1 hown hinv
        go_wp2
        go_roundw
        case rel => exact ⟨s.size + 1, s.size + 1, done ++ [s.extract f s.size], by omega, by omega, by omega, by go_num, by go_num, hinv1, hown2, hb1⟩
        case measure => simp [intOf] <;> omega
      · have hlt : k < s.size := by omega
        by_cases hhit : s[k] = c
        · have hh : ((s[k].toNat : Int) == (c.toNat : Int)) = true := by rw [hhit]; simp
          have hl : (s.data.toList[k]'(by simpa using hlt)) = c := hhit
          have HL := Lib.hid hl
          clear hl hhit
          go_wp2_with (at_builtin; refine wpList_append_own _ rfl (.tmp 26) (.tmp 31) 34 rfl w.heap.size 9 i0 (.string ByteArray.empty) 1 16 Tryz.underlying34 hi hz0 hz1 hz2 rfl (by decide) _ _ _ rfl (hown.alloc _) ⟨wr.heap.size, 0, none⟩ 1 1 [.string (s.extract f k)] rfl rfl (cell_one_new _ _ _) (by simp [Value.oneCell']) (by unfold maxLen; omega) (by omega) (by simp <;> omega) ?_; intro v1 w1 hown1 hgrow _)
          have hb1 : Below w.heap.size w w1 := (hb.alloc hb.size _).grown hgrow (by simp <;> omega) (fun j hj => (hown.lt j hj).1)
          have hinv1 : Hid (Inv c s.data.toList (k + 1) (k + 1) ((done ++ [s.extract f k]).map (·.data.toList))) := by
            have h := inv_hit hinv.out (by simpa using hlt) HL.out
            rw [List.map_append, List.map_cons, List.map_nil, Lib.extract_data]
            exact h
          have hown2 : w1.ownsRow w.heap.size 9 1 v1 (done ++ [s.extract f k]).length ((done ++ [s.extract f k]).map Value.string) := by simpa using hown1
          clear hown1 hown hinv
          go_wp2
          go_roundw
          case rel => exact ⟨k + 1, k + 1, done ++ [s.extract f k], by omega, by omega, by omega, by go_num, by go_num, hinv1, hown2, hb1⟩
          case measure => simp [intOf] <;> omega
        · have hh : ((s[k].toNat : Int) == (c.toNat : Int)) = false := by
            rw [beq_eq_false_iff_ne]
            intro h
            exact hhit (UInt8.toNat_inj.1 (by omega))
          have hinv1 := Lib.hid (inv_miss hinv.out (by simpa using hlt) hhit)
          clear hhit hinv
          go_wp2
          go_roundw
          case rel => exact ⟨k + 1, f, done, by omega, by omega, by omega, by go_num, rfl, hinv1.out, hown, hb⟩
          case measure => simp [intOf] <;> omega

/-- The library's variable that its searches read holds an integer. -/
def Var (w : World) : Prop := ∃ m, w.cell? ⟨0, 0, none⟩ = some (.int .i64 m)
theorem Var.of_shaped {w : World} (h : w.ShapedOpen Tryz.prog) : Var w := Tryz.laysM146.s1_3 w h
theorem Var.below {w w' : World} (h : Var w) (hb : Below w.heap.size w w') : Var w' := by
  obtain ⟨m, hm⟩ := h
  have hlt := World.block_lt_of_cell? w _ hm
  exact ⟨m, by rw [hb.cell (by exact hlt)]; exact hm⟩

theorem lib (s : ByteArray) (c : UInt8) (hs : s.size ≤ 1048576) (w : World) (hv : Var w) : Calls Tryz.prog 34 #[.string s, .string ⟨#[c]⟩] w (Post c s w) := by
  obtain ⟨m, hm⟩ := hv
  refine (Tryz.strings_Split s ⟨#[c]⟩ m w (by omega) hm (Nat.le_refl 1)).mono fun e w' ⟨he, hw⟩ => ?_
  subst hw
  rw [lib_spB, ← spB_length] at *
  refine ⟨_, _, he, fun _ => ⟨w.heap.size, 0, rfl, by simp, fun j x hj => ?_⟩, fun _ b o e j hj => ?_, (Below.refl _ _).alloc (Nat.le_refl _) _, fun a e => ?_, Nat.le_refl _⟩
  · rw [World.cell?_alloc_at _ _ _ _ rfl]
    simp [hj]
  · injection e with e; injection e with e1 e2; subst e1; subst e2
    exact World.frozen?_alloc_at _ _ _ _ rfl
  · injection e with e; subst e; exact Nat.le_refl _

end SplitS
end Go.Proofs.YtjjhpabmhnincaaGreatDoor
