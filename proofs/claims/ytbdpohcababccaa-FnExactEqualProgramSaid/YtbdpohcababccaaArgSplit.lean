import Derived.Test.YtbdpohcababccaaSplitMath
import Derived.Lib.CountLaws
import Derived.Lib.IndexMore
/-
  Plain mathematics of splitting at " : ". Imports nothing of the program.
-/
namespace Go.Proofs.Ytbdpohcababccaa
namespace ArgSp
open Go.Lib

/-- " : " -/
abbrev sep : List UInt8 := [32, 58, 32]
theorem occ_iff {s : List UInt8} {i : Nat} : occAt s sep i = true ↔ ∃ r, s.drop i = sep ++ r := by
  unfold occAt
  rw [List.isPrefixOf_iff_prefix]
  exact ⟨fun ⟨r, h⟩ => ⟨r, h.symm⟩, fun ⟨r, h⟩ => ⟨r, h.symm⟩⟩
theorem occ_colon {s : List UInt8} {i : Nat} (h : occAt s sep i = true) : s[i + 1]? = some 58 := by
  obtain ⟨r, h⟩ := occ_iff.1 h
  have := congrArg (fun l => l[1]?) h
  simpa using this
theorem index_hit {a : List UInt8} (r : List UInt8) (h : 58 ∉ a) : index (a ++ (sep ++ r)) sep = a.length := by
  refine index_first (by simp) (occ_iff.2 ⟨r, by simp⟩) (fun j hj => ?_)
  cases e : occAt (a ++ (sep ++ r)) sep j with
  | false => rfl
  | true =>
    have hc := occ_colon e
    by_cases hl : j + 1 < a.length
    · rw [List.getElem?_append_left hl] at hc
      exact absurd (List.mem_of_getElem? hc) h
    · have e1 : j + 1 = a.length := by omega
      rw [List.getElem?_append_right (by omega), e1, Nat.sub_self] at hc
      simp at hc
theorem index_none' {s : List UInt8} (h : 58 ∉ s) : index s sep = -1 := index_none fun j _ => by
  cases e : occAt s sep j with
  | false => rfl
  | true => exact absurd (List.mem_of_getElem? (occ_colon e)) h

def spl (s : List UInt8) : List (List UInt8) := splitK sep 0 (count s sep) s
theorem spl_none {s : List UInt8} (h : 58 ∉ s) : spl s = [s] := by
  unfold spl
  rw [count_miss (index_none' h)]
  rfl
theorem spl_hit {a : List UInt8} (r : List UInt8) (h : 58 ∉ a) : spl (a ++ (sep ++ r)) = a :: spl r := by
  have hi := index_hit r h
  have hd : (a ++ (sep ++ r)).drop (a.length + sep.length) = r := by
    rw [← List.drop_drop, List.drop_left, List.drop_left]
  unfold spl
  rw [count_hit (by simp) hi, hd, Nat.add_comm 1, splitK, hi]
  have h1 : ((a.length : Int) == -1) = false := by rw [beq_eq_false_iff_ne]; omega
  rw [h1]
  simp only [Bool.false_eq_true, if_false, Int.toNat_natCast, Nat.add_zero]
  rw [List.take_left, hd]

/-- The parts with the separator behind each but the last. -/
def joinT : List (List UInt8) → List UInt8
  | [] => []
  | [p] => p
  | p :: q :: r => p ++ (sep ++ joinT (q :: r))
theorem joinT_cons (p : List UInt8) {l : List (List UInt8)} (h : l ≠ []) : joinT (p :: l) = p ++ (sep ++ joinT l) := by
  cases l with
  | nil => exact absurd rfl h
  | cons q r => rfl
theorem splitK_ne (k : Nat) (s : List UInt8) : splitK sep 0 k s ≠ [] := by
  cases k with
  | zero => simp [splitK]
  | succ k =>
    unfold splitK
    split <;> simp
theorem spl_ne (s : List UInt8) : spl s ≠ [] := splitK_ne _ _
theorem join_splitK : ∀ (k : Nat) (s : List UInt8), joinT (splitK sep 0 k s) = s
  | 0, s => rfl
  | k + 1, s => by
    rcases index_spec s sep with ⟨h, _⟩ | ⟨i, h, hi, ho, _⟩
    · unfold splitK
      rw [h]
      rfl
    · obtain ⟨r, hr⟩ := occ_iff.1 ho
      unfold splitK
      rw [h]
      have h1 : ((i : Int) == -1) = false := by rw [beq_eq_false_iff_ne]; omega
      rw [h1]
      simp only [Bool.false_eq_true, if_false, Int.toNat_natCast, Nat.add_zero]
      rw [joinT_cons _ (splitK_ne _ _), join_splitK k]
      have h2 : s.drop (i + sep.length) = r := by rw [← List.drop_drop, hr, List.drop_left]
      rw [h2, ← hr, List.take_append_drop]
theorem join_spl (s : List UInt8) : joinT (spl s) = s := join_splitK _ _
theorem joinT_snoc : ∀ (l : List (List UInt8)) (p : List UInt8), joinT (l ++ [p]) = (l.map fun x => x ++ sep).flatten ++ p
  | [], p => rfl
  | a :: l, p => by
    rw [List.cons_append, joinT_cons _ (by simp), joinT_snoc l p]
    simp
theorem splitK_len (k : Nat) : ∀ s : List UInt8, (splitK sep 0 k s).length ≤ k + 1 := by
  induction k with
  | zero => intro s; simp [splitK]
  | succ k ih =>
    intro s
    unfold splitK
    split
    · simp
    · have := ih (s.drop ((index s sep).toNat + sep.length))
      rw [List.length_cons]
      exact Nat.succ_le_succ this
theorem spl_len (s : List UInt8) : (spl s).length ≤ s.length + 2 := by
  have h1 := splitK_len (count s sep) s
  have h2 := count_le s sep
  unfold spl
  omega
theorem flat_len {α : Type} : ∀ (l : List (List α)) {p : List α}, p ∈ l → p.length ≤ l.flatten.length
  | a :: l, p, h => by
    rw [List.flatten_cons, List.length_append]
    rcases List.mem_cons.1 h with rfl | h
    · omega
    · have := flat_len l h
      omega
theorem spl_part (s : List UInt8) {p : List UInt8} (h : p ∈ spl s) : p.length ≤ s.length := by
  have hj := join_spl s
  obtain ⟨l, q, e⟩ : ∃ l q, spl s = l ++ [q] := ⟨_, _, (List.dropLast_concat_getLast (spl_ne s)).symm⟩
  rw [e] at h hj
  rw [joinT_snoc] at hj
  have hl := congrArg List.length hj
  rw [List.length_append] at hl
  rcases List.mem_append.1 h with h | h
  · have := flat_len (l.map fun x => x ++ sep) (p := p ++ sep) (List.mem_map.2 ⟨p, h, rfl⟩)
    rw [List.length_append] at this
    omega
  · rw [List.mem_singleton.1 h]
    omega
end ArgSp
end Go.Proofs.Ytbdpohcababccaa
