
/-
  Plain facts on names: which texts are reserved, which have the shape of a name, which are valid.
-/
namespace Go.Proofs.Ytaaceggedjcbpaa
namespace NameM

/-- Is this text among these texts? -/
def hasB (ss : List ByteArray) (s : ByteArray) : Bool := decide (s.data.toList ∈ ss.map fun t => t.data.toList)

theorem toList_inj {s t : ByteArray} (h : s.data.toList = t.data.toList) : s = t := by
  cases s; cases t; congr 1; exact Array.toList_inj.1 h
theorem hasB_iff {ss : List ByteArray} {s : ByteArray} : hasB ss s = true ↔ s ∈ ss := by
  unfold hasB
  rw [decide_eq_true_eq, List.mem_map]
  exact ⟨fun ⟨t, ht, e⟩ => toList_inj e ▸ ht, fun h => ⟨s, h, rfl⟩⟩
theorem hasB_hit {ss : List ByteArray} {s : ByteArray} (k : Nat) (h : ss[k]? = some s) : hasB ss s = true :=
  hasB_iff.2 (List.mem_of_getElem? h)
theorem hasB_miss {ss : List ByteArray} {s : ByteArray} (h : ∀ j, j < ss.length → ss[j]? ≠ some s) : hasB ss s = false := by
  cases e : hasB ss s with
  | false => rfl
  | true =>
    obtain ⟨j, hj⟩ := List.getElem?_of_mem (hasB_iff.1 e)
    exact absurd hj (h j (List.getElem?_eq_some_iff.1 hj).1)

/-- fun, pre, rule, return, nil. -/
def resList : List ByteArray := [⟨#[102, 117, 110]⟩, ⟨#[112, 114, 101]⟩, ⟨#[114, 117, 108, 101]⟩, ⟨#[114, 101, 116, 117, 114, 110]⟩, ⟨#[110, 105, 108]⟩]
def resv (s : ByteArray) : Bool := hasB resList s

def letter (c : UInt8) : Bool := decide (97 ≤ (c.toNat : Int)) && decide ((c.toNat : Int) ≤ 122)
def digit (c : UInt8) : Bool := decide (48 ≤ (c.toNat : Int)) && decide ((c.toNat : Int) ≤ 57)

/-- Starts with a letter, and holds letters and digits. -/
def shape : List UInt8 → Bool
  | [] => false
  | c :: l => letter c && l.all fun d => letter d || digit d

def validName (s : ByteArray) : Bool := shape s.data.toList && decide (s.size ≤ 8) && !resv s
def listName (s : ByteArray) : Bool := validName s && s.data.toList.getLast? == some 115

theorem shape_pos {s : ByteArray} (h : shape s.data.toList = true) : 0 < s.size := by
  rcases Nat.eq_zero_or_pos s.size with h0 | h0
  · have : s.data.toList = [] := by
      apply List.eq_nil_of_length_eq_zero
      simpa using h0
    rw [this] at h; simp [shape] at h
  · exact h0

/-- The byte at place k keeps the shape. -/
def fits (k : Nat) (c : UInt8) : Bool := letter c || (decide (k ≠ 0) && digit c)

theorem shape_iff (l : List UInt8) : shape l = true ↔ l ≠ [] ∧ ∀ k c, l[k]? = some c → fits k c = true := by
  cases l with
  | nil => simp [shape]
  | cons c l =>
    simp only [shape, Bool.and_eq_true, List.all_eq_true, ne_eq, reduceCtorEq, not_false_eq_true, true_and]
    constructor
    · rintro ⟨h1, h2⟩ k d hk
      cases k with
      | zero => simp at hk; subst hk; simp [fits, h1]
      | succ k =>
        have := h2 d (List.mem_of_getElem? (by simpa using hk))
        simpa [fits] using this
    · intro h
      refine ⟨by simpa [fits] using h 0 c (by simp), fun d hd => ?_⟩
      obtain ⟨k, hk⟩ := List.getElem?_of_mem hd
      simpa [fits] using h (k + 1) d (by simpa using hk)

theorem shape_no {l : List UInt8} (k : Nat) (c : UInt8) (h : l[k]? = some c) (hf : fits k c = false) : shape l = false := by
  cases hs : shape l with
  | false => rfl
  | true => rw [((shape_iff l).1 hs).2 k c h] at hf; cases hf
theorem shape_yes {l : List UInt8} (hn : l ≠ []) (h : ∀ k c, k < l.length → l[k]? = some c → fits k c = true) : shape l = true :=
  (shape_iff l).2 ⟨hn, fun k c hk => h k c (List.getElem?_eq_some_iff.1 hk).1 hk⟩

/-- The texts of ss that are not among rs. -/
def wo (ss rs : List ByteArray) : List ByteArray := ss.filter fun s => !hasB rs s
theorem wo_length (ss rs : List ByteArray) : (wo ss rs).length ≤ ss.length := List.length_filter_le _ _
theorem wo_take_length (ss rs : List ByteArray) (k : Nat) : (wo (ss.take k) rs).length ≤ ss.length := by
  have h1 := wo_length (ss.take k) rs
  have h2 := List.length_take_le k ss
  have h3 : (ss.take k).length ≤ ss.length := by rw [List.length_take]; omega
  omega
theorem wo_skip {ss rs : List ByteArray} {k : Nat} {s : ByteArray} (h : ss[k]? = some s) (hr : hasB rs s = true) : wo (ss.take (k + 1)) rs = wo (ss.take k) rs := by
  unfold wo
  rw [List.take_add_one, h, List.filter_append]
  simp [hr]
theorem wo_keep {ss rs : List ByteArray} {k : Nat} {s : ByteArray} (h : ss[k]? = some s) (hr : hasB rs s = false) : wo (ss.take (k + 1)) rs = wo (ss.take k) rs ++ [s] := by
  unfold wo
  rw [List.take_add_one, h, List.filter_append]
  simp [hr]

end NameM
end Go.Proofs.Ytaaceggedjcbpaa
