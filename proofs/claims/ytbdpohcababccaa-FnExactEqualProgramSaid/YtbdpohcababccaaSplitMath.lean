import Derived.Lib.Split
import Derived.Lib.SplitLaws
import Derived.Lib.IndexBytes
import Derived.Lib.Bytealg
import Derived.Lib.Join
import Derived.WideShapes
/-
  Plain mathematics of splitting at a byte. Imports nothing of the program.
-/
namespace Go.Proofs.Ytbdpohcababccaa
namespace SplitM
open Go.Lib

/-- The parts of l between the occurrences of c. -/
def sp (c : UInt8) : List UInt8 → List (List UInt8)
  | [] => [[]]
  | b :: l => if b = c then [] :: sp c l else match sp c l with
    | [] => [[b]]
    | p :: ps => (b :: p) :: ps

theorem sp_none (c : UInt8) : ∀ l : List UInt8, c ∉ l → sp c l = [l]
  | [], _ => rfl
  | b :: l, h => by
    have hb : b ≠ c := fun e => h (by simp [e])
    have hl : c ∉ l := fun e => h (List.mem_cons_of_mem _ e)
    rw [sp, if_neg hb, sp_none c l hl]

theorem sp_hit (c : UInt8) : ∀ (a r : List UInt8), c ∉ a → sp c (a ++ c :: r) = a :: sp c r
  | [], r, _ => by simp [sp]
  | b :: a, r, h => by
    have hb : b ≠ c := fun e => h (by simp [e])
    have hl : c ∉ a := fun e => h (List.mem_cons_of_mem _ e)
    rw [List.cons_append, sp, if_neg hb, sp_hit c a r hl]

theorem indexByte_hit (c : UInt8) : ∀ (a r : List UInt8), c ∉ a → indexByte (a ++ c :: r) c = a.length
  | [], r, _ => by simp [indexByte]
  | b :: a, r, h => by
    have hb : (b == c) = false := by rw [beq_eq_false_iff_ne]; exact fun e => h (by simp [e])
    have hl : c ∉ a := fun e => h (List.mem_cons_of_mem _ e)
    rw [List.cons_append, indexByte, hb, indexByte_hit c a r hl]
    have : ((a.length : Int) == -1) = false := by rw [beq_eq_false_iff_ne]; omega
    simp [this]

theorem first_occ (c : UInt8) : ∀ l : List UInt8, c ∈ l → ∃ a r, l = a ++ c :: r ∧ c ∉ a
  | b :: l, h => by
    by_cases hb : b = c
    · exact ⟨[], l, by simp [hb], by simp⟩
    · have hl : c ∈ l := by
        rcases List.mem_cons.1 h with h | h
        · exact absurd h.symm hb
        · exact h
      obtain ⟨a, r, rfl, ha⟩ := first_occ c l hl
      exact ⟨b :: a, r, rfl, fun h => by
        rcases List.mem_cons.1 h with h | h
        · exact hb h.symm
        · exact ha h⟩

theorem splitK_eq (c : UInt8) : ∀ (k : Nat) (l : List UInt8), l.count c = k → splitK [c] 0 k l = sp c l
  | 0, l, h => by
    rw [sp_none c l (List.count_eq_zero.1 h)]
    rfl
  | k + 1, l, h => by
    obtain ⟨a, r, rfl, ha⟩ := first_occ c l (List.count_pos_iff.1 (by omega))
    have hc : r.count c = k := by
      rw [List.count_append, List.count_cons_self, List.count_eq_zero.2 ha] at h
      omega
    unfold splitK
    rw [index_one, indexByte_hit c a r ha]
    have h1 : ((a.length : Int) == -1) = false := by rw [beq_eq_false_iff_ne]; omega
    rw [h1]
    simp only [Bool.false_eq_true, if_false, Int.toNat_natCast, Nat.add_zero, List.length_cons, List.length_nil, Nat.zero_add]
    rw [List.take_left, sp_hit c a r ha]
    have e : (a ++ c :: r).drop (a.length + 1) = r := by
      rw [← List.drop_drop, List.drop_left]; rfl
    rw [e, splitK_eq c k r hc]

/-- The library's pieces are 'sp''s. -/
theorem lib_pieces (s : ByteArray) (c : UInt8) : (splitB ⟨#[c]⟩ 0 (countB s ⟨#[c]⟩) s).map (·.data.toList) = sp c s.data.toList := by
  rw [splitB_data]
  have e : (ByteArray.mk #[c]).data.toList = [c] := rfl
  rw [e, splitK_eq c _ _ (by show _ = count s.data.toList (ByteArray.mk #[c]).data.toList; rw [e, count_one])]

theorem lib_length (s : ByteArray) (c : UInt8) : (sp c s.data.toList).length = countB s ⟨#[c]⟩ + 1 := by
  rw [← lib_pieces, List.length_map]
  have h2 : ∀ (k : Nat) (t : List UInt8), t.count c = k → (sp c t).length = k + 1 := by
    intro k
    induction k with
    | zero => intro t h; rw [sp_none c t (List.count_eq_zero.1 h)]; rfl
    | succ k ih =>
      intro t h
      obtain ⟨a, r, rfl, ha⟩ := first_occ c t (List.count_pos_iff.1 (by omega))
      have hc : r.count c = k := by
        rw [List.count_append, List.count_cons_self, List.count_eq_zero.2 ha] at h
        omega
      rw [sp_hit c a r ha, List.length_cons, ih r hc]
  have h3 := congrArg List.length (lib_pieces s c)
  rw [List.length_map] at h3
  rw [h3]
  refine h2 _ _ ?_
  show _ = count s.data.toList (ByteArray.mk #[c]).data.toList
  rw [show (ByteArray.mk #[c]).data.toList = [c] from rfl, count_one]

theorem pieces_inj : ∀ {xs ys : List ByteArray}, xs.map (·.data.toList) = ys.map (·.data.toList) → xs = ys
  | [], [], _ => rfl
  | x :: xs, y :: ys, h => by
    simp only [List.map_cons, List.cons.injEq] at h
    rw [WideShapes.bytes_inj h.1, pieces_inj h.2]
  | [], _ :: _, h => by simp at h
  | _ :: _, [], h => by simp at h

/-- The pieces as strings. -/
def spB (c : UInt8) (s : ByteArray) : List ByteArray := (sp c s.data.toList).map fun l => ⟨l.toArray⟩
theorem spB_data (c : UInt8) (s : ByteArray) : (spB c s).map (·.data.toList) = sp c s.data.toList := by
  simp [spB, Function.comp_def]
theorem lib_spB (s : ByteArray) (c : UInt8) : splitB ⟨#[c]⟩ 0 (countB s ⟨#[c]⟩) s = spB c s :=
  pieces_inj (by rw [lib_pieces, spB_data])
theorem spB_length (s : ByteArray) (c : UInt8) : (spB c s).length = countB s ⟨#[c]⟩ + 1 := by rw [spB, List.length_map, lib_length]

theorem sp_length_le (c : UInt8) : ∀ l : List UInt8, (sp c l).length ≤ l.length + 1
  | [] => Nat.le_refl _
  | b :: l => by
    have := sp_length_le c l
    rw [sp]
    split
    · simp; omega
    · split
      · simp
      · rename_i p ps h
        rw [h] at this
        simp at this ⊢; omega

theorem sp_parts (c : UInt8) : ∀ l : List UInt8, ∀ p ∈ sp c l, c ∉ p
  | [], p, h => by
    simp [sp] at h
    subst h
    simp
  | b :: l, p, h => by
    have ih := sp_parts c l
    rw [sp] at h
    split at h
    · rcases List.mem_cons.1 h with rfl | h
      · simp
      · exact ih p h
    · rename_i hb
      split at h
      · simp at h; subst h
        simp only [List.mem_singleton]; exact fun e => hb e.symm
      · rename_i q qs hq
        rcases List.mem_cons.1 h with rfl | h
        · intro hm
          rcases List.mem_cons.1 hm with e | hm
          · exact hb e.symm
          · exact ih q (by rw [hq]; simp) hm
        · exact ih p (by rw [hq]; exact List.mem_cons_of_mem _ h)

theorem sp_ne (c : UInt8) : ∀ l : List UInt8, sp c l ≠ []
  | [] => by simp [sp]
  | b :: l => by
    rw [sp]
    split
    · simp
    · split <;> simp

theorem join_sp (c : UInt8) : ∀ l : List UInt8, Lib.join (sp c l) [c] = l
  | [] => by simp [sp, Lib.join_one]
  | b :: l => by
    have ih := join_sp c l
    rw [sp]
    split
    · rename_i hb
      subst hb
      cases hq : sp b l with
      | nil => exact absurd hq (sp_ne b l)
      | cons q qs =>
        rw [hq, Lib.join_cons] at ih
        rw [Lib.join_cons]
        simp only [Lib.joinTail, List.map_cons, List.flatten_cons, List.nil_append] at ih ⊢
        rw [List.append_assoc, ih]; rfl
    · split
      · rename_i h; exact absurd h (sp_ne c l)
      · rename_i q qs hq
        rw [hq, Lib.join_cons] at ih
        rw [Lib.join_cons, List.cons_append, ih]

theorem spB_one (c : UInt8) (s p : ByteArray) (h : p ∈ spB c s) : (spB c p).length = 1 := by
  simp only [spB, List.mem_map] at h
  obtain ⟨l, hl, rfl⟩ := h
  have := sp_parts c _ l hl
  simp only [spB, List.length_map]
  rw [sp_none c l this]
  rfl

theorem bytes_sp (c : UInt8) : ∀ l : List UInt8, ((sp c l).map List.length).sum ≤ l.length
  | [] => by simp [sp]
  | b :: l => by
    have ih := bytes_sp c l
    rw [sp]
    split
    · simp; omega
    · split
      · simp
      · rename_i q qs hq
        rw [hq] at ih
        simp at ih ⊢
        omega

theorem spB_size (c : UInt8) (s p : ByteArray) (h : p ∈ spB c s) : p.size ≤ s.size := by
  simp only [spB, List.mem_map] at h
  obtain ⟨l, hl, rfl⟩ := h
  have h1 := bytes_sp c s.data.toList
  have h2 : l.length ≤ ((sp c s.data.toList).map List.length).sum := by
    obtain ⟨a, b, hab⟩ := List.append_of_mem hl
    rw [hab]
    simp only [List.map_append, List.map_cons, List.sum_append, List.sum_cons]
    omega
  have e : (ByteArray.mk l.toArray).size = l.length := by show l.toArray.size = _; simp
  have e2 : s.data.toList.length = s.size := by simp
  omega
end SplitM
end Go.Proofs.Ytbdpohcababccaa
