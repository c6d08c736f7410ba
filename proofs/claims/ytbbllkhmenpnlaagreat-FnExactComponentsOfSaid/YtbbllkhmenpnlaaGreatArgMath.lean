import Derived.Lib.ItoaNum
import Derived.Lib.Atoi
import Derived.Lib.AtoiTie
import Derived.Lib.AtoiAll
import Derived.Lib.Split
import Derived.Lib.SplitLaws
import Derived.Lib.IndexBytes
import Derived.Lib.Bytealg
import Derived.Lib.Join
import Derived.WideShapes
import Derived.Lib.SlicesS
import Derived.Lib.SlicesCompact
import Derived.Lib.RowBridge
import Derived.Test.YtbbllkhmenpnlaaGreatArithSpec
import Derived.Lib.CountLaws
import Derived.Lib.IndexMore
/-
  Plain facts on names: which texts are reserved, which have the shape of a name, which are valid.
-/
namespace Go.Proofs.YtbbllkhmenpnlaaGreat
namespace NameM

def hasB (ss : List ByteArray) (s : ByteArray) : Bool := decide (s.data.toList ∈ ss.map fun t => t.data.toList)

theorem toList_inj {s t : ByteArray} (h : s.data.toList = t.data.toList) : s = t := by
 cases s; cases t; congr 1; exact Array.toList_inj.1 h
theorem hasB_iff {ss : List ByteArray} {s : ByteArray} : hasB ss s = true ↔ s ∈ ss := by
 unfold hasB
 rw [decide_eq_true_eq, List.mem_map]
 exact ⟨fun ⟨t, ht, e⟩ => toList_inj e ▸ ht, fun h => ⟨s, h, rfl⟩⟩
theorem hasB_hit {ss : List ByteArray} {s : ByteArray} (k : Nat) (h : ss[k]? = some s) : hasB ss s = true :=
 hasB_iff.2 (List.mem_of_getElem? h)
theorem hasB_miss {ss : List ByteArray} {s : ByteArray} (h : ∀ j, j < ss.length → ss[j]? ≠ some s) : hasB ss s = false := by
 cases e : hasB ss s with
 | false => rfl
 | true =>
  obtain ⟨j, hj⟩ := List.getElem?_of_mem (hasB_iff.1 e)
  exact absurd hj (h j (List.getElem?_eq_some_iff.1 hj).1)

def resList : List ByteArray := [⟨#[102, 117, 110]⟩, ⟨#[112, 114, 101]⟩, ⟨#[114, 117, 108, 101]⟩, ⟨#[114, 101, 116, 117, 114, 110]⟩, ⟨#[110, 105, 108]⟩]
def resv (s : ByteArray) : Bool := hasB resList s

def letter (c : UInt8) : Bool := decide (97 ≤ (c.toNat : Int)) && decide ((c.toNat : Int) ≤ 122)
def digit (c : UInt8) : Bool := decide (48 ≤ (c.toNat : Int)) && decide ((c.toNat : Int) ≤ 57)

def shape : List UInt8 → Bool
 | [] => false
 | c :: l => letter c && l.all fun d => letter d || digit d

def validName (s : ByteArray) : Bool := shape s.data.toList && decide (s.size ≤ 8) && !resv s
def listName (s : ByteArray) : Bool := validName s && s.data.toList.getLast? == some 115

theorem shape_pos {s : ByteArray} (h : shape s.data.toList = true) : 0 < s.size := by
 rcases Nat.eq_zero_or_pos s.size with h0 | h0
 ·have : s.data.toList = [] := by
   apply List.eq_nil_of_length_eq_zero
   simpa using h0
  rw [this] at h; simp [shape] at h
 ·exact h0

def fits (k : Nat) (c : UInt8) : Bool := letter c || (decide (k ≠ 0) && digit c)

theorem shape_iff (l : List UInt8) : shape l = true ↔ l ≠ [] ∧ ∀ k c, l[k]? = some c → fits k c = true := by
 cases l with
 | nil => simp [shape]
 | cons c l =>
  simp only [shape, Bool.and_eq_true, List.all_eq_true, ne_eq, reduceCtorEq, not_false_eq_true, true_and]
  constructor
  ·rintro ⟨h1, h2⟩ k d hk
   cases k with
   | zero => simp at hk; subst hk; simp [fits, h1]
   | succ k =>
    have := h2 d (List.mem_of_getElem? (by simpa using hk))
    simpa [fits] using this
  ·intro h
   refine ⟨by simpa [fits] using h 0 c (by simp), fun d hd => ?_⟩
   obtain ⟨k, hk⟩ := List.getElem?_of_mem hd
   simpa [fits] using h (k + 1) d (by simpa using hk)

theorem shape_no {l : List UInt8} (k : Nat) (c : UInt8) (h : l[k]? = some c) (hf : fits k c = false) : shape l = false := by
 cases hs : shape l with
 | false => rfl
 | true => rw [((shape_iff l).1 hs).2 k c h] at hf; cases hf
theorem shape_yes {l : List UInt8} (hn : l ≠ []) (h : ∀ k c, k < l.length → l[k]? = some c → fits k c = true) : shape l = true :=
 (shape_iff l).2 ⟨hn, fun k c hk => h k c (List.getElem?_eq_some_iff.1 hk).1 hk⟩

def wo (ss rs : List ByteArray) : List ByteArray := ss.filter fun s => !hasB rs s
theorem wo_length (ss rs : List ByteArray) : (wo ss rs).length ≤ ss.length := List.length_filter_le _ _
theorem wo_take_length (ss rs : List ByteArray) (k : Nat) : (wo (ss.take k) rs).length ≤ ss.length := by
 have h1 := wo_length (ss.take k) rs
 have h2 := List.length_take_le k ss
 have h3 : (ss.take k).length ≤ ss.length := by rw [List.length_take]; omega
 omega
theorem wo_skip {ss rs : List ByteArray} {k : Nat} {s : ByteArray} (h : ss[k]? = some s) (hr : hasB rs s = true) : wo (ss.take (k + 1)) rs = wo (ss.take k) rs := by
 unfold wo
 rw [List.take_add_one, h, List.filter_append]
 simp [hr]
theorem wo_keep {ss rs : List ByteArray} {k : Nat} {s : ByteArray} (h : ss[k]? = some s) (hr : hasB rs s = false) : wo (ss.take (k + 1)) rs = wo (ss.take k) rs ++ [s] := by
 unfold wo
 rw [List.take_add_one, h, List.filter_append]
 simp [hr]

end NameM
end Go.Proofs.YtbbllkhmenpnlaaGreat

/-
  Plain mathematics of the text form of linear expressions: what is written ('fmt'), what is read ('parseL'). Imports nothing of the program.
-/
namespace Go.Proofs.YtbbllkhmenpnlaaGreat
namespace TextM
open Go.Lib (itoa decDigits idxOfS)
open NameM (letter digit)

abbrev TItem := Int × ByteArray

theorem size_list (s : ByteArray) : s.data.toList.length = s.size := by simp
theorem size_zero {s : ByteArray} (h : s.size = 0) : s.data.toList = [] := List.eq_nil_of_length_eq_zero (by rw [size_list, h])
end TextM
end Go.Proofs.YtbbllkhmenpnlaaGreat

/-
  Sorted texts, each once ('srt'): insertion one by one; what sorting and striking repetitions gives is the same.
-/
namespace Go.Proofs.YtbbllkhmenpnlaaGreat
namespace SortM
abbrev Bytes := List UInt8

theorem lt_irrefl (a : Bytes) : ¬ a < a := List.lt_irrefl a
theorem lt_trans {a b c : Bytes} (h : a < b) (k : b < c) : a < c := List.lt_trans h k
theorem lt_asymm {a b : Bytes} (h : a < b) : ¬ b < a := List.lt_asymm h
theorem lt_of_le_ne {a b : Bytes} (h : a ≤ b) (k : a ≠ b) : a < b := by
 rcases Classical.em (a < b) with h1 | h1
 ·exact h1
 ·exact absurd (List.le_antisymm h (List.not_lt.1 h1)) k
theorem tri {a b : Bytes} (h : ¬ a < b) (k : a ≠ b) : b < a := lt_of_le_ne (List.not_lt.1 h) (fun e => k e.symm)
theorem lt_of_le_lt {a b c : Bytes} (h : a ≤ b) (k : b < c) : a < c := by
 rcases Classical.em (a = b) with e | e
 ·exact e ▸ k
 ·exact lt_trans (lt_of_le_ne h e) k

abbrev Asc (l : List Bytes) : Prop := l.Pairwise fun a b => a < b

theorem asc_unique : ∀ {l m : List Bytes}, Asc l → Asc m → (∀ x, x ∈ l ↔ x ∈ m) → l = m
 | [], [], _, _, _ => rfl
 | [], y :: m, _, _, h => absurd ((h y).2 (List.mem_cons_self ..)) (by simp)
 | x :: l, [], _, _, h => absurd ((h x).1 (List.mem_cons_self ..)) (by simp)
 | x :: l, y :: m, hl, hm, h => by
  obtain ⟨hx, hl'⟩ := List.pairwise_cons.1 hl
  obtain ⟨hy, hm'⟩ := List.pairwise_cons.1 hm
  have e : x = y := by
   rcases List.mem_cons.1 ((h x).1 (List.mem_cons_self ..)) with e | h1
   ·exact e
   ·rcases List.mem_cons.1 ((h y).2 (List.mem_cons_self ..)) with e | h2
    ·exact e.symm
    ·exact absurd (hy x h1) (lt_asymm (hx y h2))
  subst e
  rw [asc_unique hl' hm' (fun z => ?_)]
  constructor
  ·intro hz
   rcases List.mem_cons.1 ((h z).1 (List.mem_cons_of_mem _ hz)) with e | h1
   ·exact absurd (hx z hz) (by rw [e]; exact lt_irrefl _)
   ·exact h1
  ·intro hz
   rcases List.mem_cons.1 ((h z).2 (List.mem_cons_of_mem _ hz)) with e | h1
   ·exact absurd (hy z hz) (by rw [e]; exact lt_irrefl _)
   ·exact h1

def pos (x : Bytes) (l : List Bytes) : Nat := (l.takeWhile fun y => decide (y < x)).length
theorem pos_le (x : Bytes) (l : List Bytes) : pos x l ≤ l.length := by
 unfold pos
 have h := List.takeWhile_append_dropWhile (p := fun y => decide (y < x)) (l := l)
 have h2 := congrArg List.length h
 simp only [List.length_append] at h2
 omega
theorem pos_below {x : Bytes} : ∀ {l : List Bytes} {j : Nat} {y : Bytes}, j < pos x l → l[j]? = some y → y < x
 | [], j, y, h, _ => by simp [pos] at h
 | z :: l, j, y, h, e => by
  unfold pos at h
  by_cases hz : z < x
  ·rw [List.takeWhile_cons_of_pos (by simpa using hz)] at h
   cases j with
   | zero => simp at e; exact e ▸ hz
   | succ j => exact pos_below (l := l) (j := j) (by simpa [pos] using h) (by simpa using e)
  ·rw [List.takeWhile_cons_of_neg (by simpa using hz)] at h
   simp at h
theorem pos_at {x : Bytes} : ∀ {l : List Bytes} {y : Bytes}, l[pos x l]? = some y → ¬ y < x
 | [], y, e => by simp at e
 | z :: l, y, e => by
  unfold pos at e
  by_cases hz : z < x
  ·rw [List.takeWhile_cons_of_pos (by simpa using hz)] at e
   exact pos_at (l := l) (by simpa [pos] using e)
  ·rw [List.takeWhile_cons_of_neg (by simpa using hz)] at e
   simp at e
   exact e ▸ hz
theorem pos_eq {x : Bytes} {l : List Bytes} {k : Nat} (h1 : k ≤ l.length) (h2 : ∀ j y, j < k → l[j]? = some y → y < x) (h3 : ∀ y, l[k]? = some y → ¬ y < x) : pos x l = k := by
 rcases Nat.lt_trichotomy (pos x l) k with h | h | h
 ·have hl : pos x l < l.length := by omega
  exact absurd (h2 _ _ h (List.getElem?_eq_getElem hl)) (pos_at (List.getElem?_eq_getElem hl))
 ·exact h
 ·have hl : k < l.length := by have := pos_le x l; omega
  exact absurd (pos_below h (List.getElem?_eq_getElem hl)) (h3 _ (List.getElem?_eq_getElem hl))

def ins (x : Bytes) (l : List Bytes) : List Bytes :=
 if l[pos x l]? = some x then l else l.take (pos x l) ++ [x] ++ l.drop (pos x l)

theorem mem_ins {x y : Bytes} {l : List Bytes} : y ∈ ins x l ↔ y = x ∨ y ∈ l := by
 unfold ins
 split
 ·rename_i h
  exact ⟨Or.inr, fun h1 => h1.elim (fun e => e ▸ List.mem_of_getElem? h) id⟩
 ·have h := List.take_append_drop (pos x l) l
  constructor
  ·intro h1
   simp only [List.mem_append, List.mem_singleton] at h1
   rcases h1 with (h1 | h1) | h1
   ·exact Or.inr (List.mem_of_mem_take h1)
   ·exact Or.inl h1
   ·exact Or.inr (List.mem_of_mem_drop h1)
  ·rintro (h1 | h1)
   ·simp [h1]
   ·rw [← h] at h1
    simp only [List.mem_append, List.mem_singleton] at h1 ⊢
    rcases h1 with h1 | h1
    ·exact Or.inl (Or.inl h1)
    ·exact Or.inr h1

theorem asc_get {l : List Bytes} (h : Asc l) {i j : Nat} {a b : Bytes} (hij : i < j) (ha : l[i]? = some a) (hb : l[j]? = some b) : a < b := by
 obtain ⟨hi, rfl⟩ := List.getElem?_eq_some_iff.1 ha
 obtain ⟨hj, rfl⟩ := List.getElem?_eq_some_iff.1 hb
 exact List.pairwise_iff_getElem.1 h i j hi hj hij

theorem asc_ins {x : Bytes} {l : List Bytes} (h : Asc l) : Asc (ins x l) := by
 unfold ins
 split
 ·exact h
 ·rename_i hne
  have hlow : ∀ y ∈ l.take (pos x l), y < x := fun y hy => by
   obtain ⟨j, hj⟩ := List.getElem?_of_mem hy
   rw [List.getElem?_take] at hj
   split at hj
   ·exact pos_below ‹_› hj
   ·cases hj
  have hhigh : ∀ y ∈ l.drop (pos x l), x < y := fun y hy => by
   obtain ⟨j, hj⟩ := List.getElem?_of_mem hy
   rw [List.getElem?_drop] at hj
   have hp : pos x l < l.length := by
    have := (List.getElem?_eq_some_iff.1 hj).1
    omega
   have h0 := List.getElem?_eq_getElem hp
   have hlt : x < l[pos x l] := tri (pos_at h0) (fun e => hne (by rw [h0, e]))
   cases j with
   | zero =>
    rw [Nat.add_zero, h0] at hj
    exact Option.some.inj hj ▸ hlt
   | succ j => exact lt_trans hlt (asc_get h (by omega) h0 hj)
  refine List.pairwise_append.2 ⟨List.pairwise_append.2 ⟨h.sublist (List.take_sublist _ _), List.pairwise_singleton _ _, fun a ha b hb => ?_⟩, h.sublist (List.drop_sublist _ _), fun a ha b hb => ?_⟩
  ·rw [List.mem_singleton.1 hb]; exact hlow a ha
  ·rcases List.mem_append.1 ha with ha | ha
   ·exact lt_trans (hlow a ha) (hhigh b hb)
   ·rw [List.mem_singleton.1 ha]; exact hhigh b hb

def srt (l : List Bytes) : List Bytes := l.foldl (fun o x => ins x o) []
theorem srt_snoc (l : List Bytes) (x : Bytes) : srt (l ++ [x]) = ins x (srt l) := by simp [srt, List.foldl_append]
theorem srt_gen : ∀ (l o : List Bytes), Asc o → Asc (l.foldl (fun o x => ins x o) o) ∧ ∀ y, y ∈ l.foldl (fun o x => ins x o) o ↔ y ∈ l ∨ y ∈ o
 | [], o, h => ⟨h, fun y => by simp⟩
 | x :: l, o, h => by
  obtain ⟨h1, h2⟩ := srt_gen l (ins x o) (asc_ins h)
  refine ⟨h1, fun y => ?_⟩
  rw [List.foldl_cons, h2 y, mem_ins, List.mem_cons]
  constructor
  ·rintro (h | h | h)
   ·exact Or.inl (Or.inr h)
   ·exact Or.inl (Or.inl h)
   ·exact Or.inr h
  ·rintro ((h | h) | h)
   ·exact Or.inr (Or.inl h)
   ·exact Or.inl h
   ·exact Or.inr (Or.inr h)
theorem srt_asc (l : List Bytes) : Asc (srt l) := (srt_gen l [] List.Pairwise.nil).1
theorem mem_srt {l : List Bytes} {y : Bytes} : y ∈ srt l ↔ y ∈ l := by
 have := (srt_gen l [] List.Pairwise.nil).2 y
 simpa [srt] using this
theorem ins_length (x : Bytes) (l : List Bytes) : (ins x l).length ≤ l.length + 1 := by
 unfold ins
 split
 ·omega
 ·have := pos_le x l
  simp only [List.length_append, List.length_take, List.length_drop, List.length_cons, List.length_nil]
  omega
theorem srt_length (l : List Bytes) : (srt l).length ≤ l.length := by
 have gen : ∀ (l o : List Bytes), (l.foldl (fun o x => ins x o) o).length ≤ l.length + o.length := by
  intro l
  induction l with
  | nil => intro o; simp
  | cons x l ih =>
   intro o
   have h1 := ih (ins x o)
   have h2 := ins_length x o
   simp only [List.foldl_cons, List.length_cons]
   omega
 simpa [srt] using gen l []

theorem compact_gen (d : Array Bytes) (hs : ∀ i j, i < j → j < d.size → d[i]! ≤ d[j]!) : ∀ m, m ≤ d.size → Asc (Lib.compactUpTo d m) ∧ ∀ y, y ∈ Lib.compactUpTo d m ↔ ∃ j, j < m ∧ d[j]! = y
 | 0, _ => ⟨by simp [Lib.compactUpTo], fun y => by simp [Lib.compactUpTo]⟩
 | m + 1, hm => by
  obtain ⟨h1, h2⟩ := compact_gen d hs m (by omega)
  rw [Lib.compactUpTo_succ]
  by_cases hk : Lib.keeps d m = true
  ·rw [if_pos hk]
   refine ⟨List.pairwise_append.2 ⟨h1, List.pairwise_singleton _ _, fun a ha b hb => ?_⟩, fun y => ?_⟩
   ·obtain ⟨j, hj, rfl⟩ := (h2 a).1 ha
    rw [List.mem_singleton.1 hb]
    simp only [Lib.keeps, decide_eq_true_eq] at hk
    rcases hk with hk | hk
    ·omega
    ·have hl : d[m - 1]! < d[m]! := lt_of_le_ne (hs _ _ (by omega) (by omega)) (fun e => hk e.symm)
     by_cases e : j = m - 1
     ·rw [e]; exact hl
     ·exact lt_of_le_lt (hs j (m - 1) (by omega) (by omega)) hl
   ·rw [List.mem_append, h2 y, List.mem_singleton]
    constructor
    ·rintro (⟨j, hj, e⟩ | e)
     ·exact ⟨j, by omega, e⟩
     ·exact ⟨m, by omega, e.symm⟩
    ·rintro ⟨j, hj, e⟩
     by_cases hjm : j = m
     ·exact Or.inr (hjm ▸ e.symm)
     ·exact Or.inl ⟨j, by omega, e⟩
  ·rw [if_neg hk, List.append_nil]
   refine ⟨h1, fun y => ?_⟩
   rw [h2 y]
   simp only [Lib.keeps, decide_eq_true_eq, not_or, ne_eq, Classical.not_not] at hk
   constructor
   ·rintro ⟨j, hj, e⟩; exact ⟨j, by omega, e⟩
   ·rintro ⟨j, hj, e⟩
    by_cases hjm : j = m
    ·exact ⟨m - 1, by omega, by rw [← hk.2, ← hjm]; exact e⟩
    ·exact ⟨j, by omega, e⟩

theorem compact_sort (l : List Bytes) : Lib.compact (l.mergeSort fun x y => decide (x ≤ y)) = srt l := by
 have hp : (l.mergeSort fun x y => decide (x ≤ y)).Pairwise fun a b => (decide (a ≤ b)) = true :=
  List.pairwise_mergeSort (fun a b c h k => by simp only [decide_eq_true_eq] at *; exact List.le_trans h k) (fun a b => by simpa using List.le_total a b) l
 have hm := List.mergeSort_perm l fun x y => decide (x ≤ y)
 generalize (l.mergeSort fun x y => decide (x ≤ y)) = s at hp hm
 have hs : ∀ i j, i < j → j < s.toArray.size → s.toArray[i]! ≤ s.toArray[j]! := fun i j hij hj => by
  have hj' : j < s.length := by simpa using hj
  have := List.pairwise_iff_getElem.1 hp i j (by omega) hj' hij
  simpa [getElem!_pos, hj', show i < s.length by omega] using this
 obtain ⟨h1, h2⟩ := compact_gen s.toArray hs s.length (by simp)
 refine asc_unique h1 (srt_asc l) (fun x => ?_)
 show x ∈ Lib.compactUpTo s.toArray s.length ↔ _
 rw [h2 x, mem_srt, ← hm.mem_iff]
 constructor
 ·rintro ⟨j, hj, rfl⟩
  rw [getElem!_pos _ _ (by simpa using hj)]
  simp
 ·intro hx
  obtain ⟨j, hj⟩ := List.getElem?_of_mem hx
  have hjl := (List.getElem?_eq_some_iff.1 hj).1
  exact ⟨j, hjl, by rw [getElem!_pos _ _ (by simpa using hjl)]; simpa using (List.getElem?_eq_some_iff.1 hj).2⟩

def srtB (ss : List ByteArray) : List ByteArray := (srt (ss.map fun s => s.data.toList)).map fun l => ⟨l.toArray⟩
theorem srtB_length (ss : List ByteArray) : (srtB ss).length ≤ ss.length := by
 have := srt_length (ss.map fun s => s.data.toList)
 simpa [srtB] using this
theorem srtB_data (ss : List ByteArray) : (srtB ss).map (fun s => s.data.toList) = srt (ss.map fun s => s.data.toList) := by
 simp [srtB, List.map_map, Function.comp_def]

theorem ins_there {x : Bytes} {l : List Bytes} (h : Asc l) (hx : x ∈ l) : ins x l = l := by
 obtain ⟨j, hj⟩ := List.getElem?_of_mem hx
 have hjl := (List.getElem?_eq_some_iff.1 hj).1
 have e : pos x l = j := pos_eq (by omega) (fun i y hi hy => asc_get h hi hy hj) (fun y hy => by rw [hj] at hy; rw [Option.some.inj hy]; exact lt_irrefl _)
 unfold ins
 rw [if_pos (by rw [e]; exact hj)]
theorem ins_new {x : Bytes} {l : List Bytes} (hx : x ∉ l) : (ins x l).length = l.length + 1 := by
 unfold ins
 have := pos_le x l
 rw [if_neg (fun h => hx (List.mem_of_getElem? h))]
 simp only [List.length_append, List.length_take, List.length_drop, List.length_cons, List.length_nil]
 omega

theorem take_step (l : List Bytes) (k : Nat) (x : Bytes) (hk : l[k]? = some x) : srt (l.take (k + 1)) = ins x (srt (l.take k)) := by
 rw [List.take_add_one, hk]
 exact srt_snoc _ _
theorem dist_step {l : List Bytes} {k : Nat} {x : Bytes} (hk : l[k]? = some x) (h : (srt (l.take k)).length = k) (hx : x ∉ l.take k) : (srt (l.take (k + 1))).length = k + 1 := by
 rw [take_step l k x hk, ins_new (fun h => hx (mem_srt.1 h)), h]
theorem srt_take_le (l : List Bytes) (k : Nat) : (srt l).length ≤ (srt (l.take k)).length + (l.length - k) := by
 have gen : ∀ (r o : List Bytes), (r.foldl (fun o x => ins x o) o).length ≤ o.length + r.length := by
  intro r
  induction r with
  | nil => intro o; simp
  | cons x r ih =>
   intro o
   have h1 := ih (ins x o)
   have h2 := ins_length x o
   simp only [List.foldl_cons, List.length_cons]
   omega
 have e : srt l = (l.drop k).foldl (fun o x => ins x o) (srt (l.take k)) := by
  unfold srt
  rw [← List.foldl_append, List.take_append_drop]
 rw [e]
 have := gen (l.drop k) (srt (l.take k))
 rw [List.length_drop] at this
 exact this
theorem dist_no {l : List Bytes} {k : Nat} {x : Bytes} (hk : l[k]? = some x) (hx : x ∈ l.take k) : (srt l).length < l.length := by
 have hkl := (List.getElem?_eq_some_iff.1 hk).1
 have h1 := srt_take_le l (k + 1)
 rw [take_step l k x hk, ins_there (srt_asc _) (mem_srt.2 hx)] at h1
 have h2 := srt_length (l.take k)
 rw [List.length_take] at h2
 omega
end SortM
end Go.Proofs.YtbbllkhmenpnlaaGreat

/-
  Plain mathematics of sums and arguments: which are valid, how they are written, what is read. Imports nothing of the program.
-/
namespace Go.Proofs.YtbbllkhmenpnlaaGreat
namespace ArgM
open TextM NameM SortM

abbrev Sm := Int × List TItem
def intName (s : ByteArray) : Bool := validName s && !listName s
def termV (t : TItem) : Bool := decide (t.1 ≠ 0) && ArithM.inF t.1 && intName t.2
def ascN (a b : TItem) : Bool := decide (a.2.data.toList < b.2.data.toList)
def ordT : List TItem → Bool
 | a :: b :: r => ascN a b && ordT (b :: r)
 | _ => true
theorem ordT_iff : ∀ {ts : List TItem}, ordT ts = true ↔ ∀ k a b, ts[k]? = some a → ts[k + 1]? = some b → ascN a b = true
 | [] => ⟨fun _ k a b h => by simp at h, fun _ => rfl⟩
 | [a] => ⟨fun _ k a b _ h => by simp at h, fun _ => rfl⟩
 | x :: y :: r => by
  rw [ordT, Bool.and_eq_true, ordT_iff (ts := y :: r)]
  constructor
  ·rintro ⟨h1, h2⟩ k a b ha hb
   cases k with
   | zero =>
    simp only [List.getElem?_cons_zero, Option.some.injEq, Nat.zero_add, List.getElem?_cons_succ] at ha hb
    subst ha; subst hb
    exact h1
   | succ k => exact h2 k a b (by simpa using ha) (by simpa using hb)
  ·intro h
   exact ⟨h 0 x y rfl rfl, fun k a b ha hb => h (k + 1) a b (by simpa using ha) (by simpa using hb)⟩
def sumV (s : Sm) : Bool := ArithM.inF s.1 && decide (s.2.length ≤ 4) && (s.2.all termV && ordT s.2)
theorem sumV_iff {s : Sm} : sumV s = true ↔ ArithM.inF s.1 = true ∧ s.2.length ≤ 4 ∧ (∀ t ∈ s.2, termV t = true) ∧ ordT s.2 = true := by
 simp only [sumV, Bool.and_eq_true, decide_eq_true_eq, List.all_eq_true]
 exact ⟨fun ⟨⟨a, b⟩, c, d⟩ => ⟨a, b, c, d⟩, fun ⟨a, b, c, d⟩ => ⟨⟨a, b⟩, c, d⟩⟩
def baseV (b : ByteArray) : Bool := decide (b.size = 0) || listName b
abbrev Ag := Bool × List Sm × ByteArray
def argV (a : Ag) : Bool := a.2.1.all sumV && (if a.1 then decide (a.2.1.length ≤ 3) && baseV a.2.2 else decide (a.2.1.length = 1) && decide (a.2.2.size = 0))
end ArgM
end Go.Proofs.YtbbllkhmenpnlaaGreat
