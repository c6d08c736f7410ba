import Derived.Lib.ItoaNum
import Derived.Lib.Atoi
import Derived.Lib.AtoiTie
import Derived.Lib.AtoiAll
import Derived.Lib.Split
import Derived.Lib.SplitLaws
import Derived.Lib.IndexBytes
import Derived.Lib.Bytealg
import Derived.Lib.Join
import Derived.WideShapes
import Derived.Lib.SlicesS
import Derived.Lib.SlicesCompact
import Derived.Lib.RowBridge
import Derived.Lib.CountLaws
import Derived.Lib.IndexMore
/-
  Plain facts on bounded numbers: sums and products within limits, greatest common divisors by remainders, quotients rounded down.
-/
namespace Go.Proofs.YtcdlgebbmcdadaaGreatDoor
namespace ArithM

/-- Is the number within the limits of expressions? -/
def inC (z : Int) : Bool := decide (-1000000000 ≤ z) && decide (z ≤ 1000000000)
/-- Is the number within the limits of programs? -/
def inF (z : Int) : Bool := decide (-1000000 ≤ z) && decide (z ≤ 1000000)

theorem inC_iff {z : Int} : inC z = true ↔ -1000000000 ≤ z ∧ z ≤ 1000000000 := by simp [inC]
theorem inF_iff {z : Int} : inF z = true ↔ -1000000 ≤ z ∧ z ≤ 1000000 := by simp [inF]

end ArithM
end Go.Proofs.YtcdlgebbmcdadaaGreatDoor

/-
  Plain facts on linear expressions: validity, values, scaled sums, tightened constraints.
-/
namespace Go.Proofs.YtcdlgebbmcdadaaGreatDoor
namespace LinM
open ArithM

/-- Are there expressions of n variables? -/
def cntB (n : Int) : Bool := decide (0 ≤ n) && decide (n ≤ 8)
theorem cntB_iff {n : Int} : cntB n = true ↔ 0 ≤ n ∧ n ≤ 8 := by simp [cntB]
/-- Is the expression one of n variables within the limits? -/
def vldB (z : Int) (zs : List Int) (n : Int) : Bool := (cntB n && decide ((zs.length : Int) = n)) && (inC z && zs.all inC)

theorem vldB_iff {z : Int} {zs : List Int} {n : Int} : vldB z zs n = true ↔ (0 ≤ n ∧ n ≤ 8) ∧ (zs.length : Int) = n ∧ inC z = true ∧ ∀ x ∈ zs, inC x = true := by
  simp only [vldB, Bool.and_eq_true, cntB_iff, decide_eq_true_eq, List.all_eq_true]
  constructor
  · rintro ⟨⟨h1, h2⟩, h3, h4⟩; exact ⟨h1, h2, h3, h4⟩
  · rintro ⟨h1, h2, h3, h4⟩; exact ⟨⟨h1, h2⟩, h3, h4⟩
theorem vldB_false_head {z : Int} {zs : List Int} {n : Int} (h : cntB n = false ∨ (zs.length : Int) ≠ n ∨ inC z = false) : vldB z zs n = false := by
  rcases h with h | h | h <;> simp [vldB, h]
theorem all_get {zs : List Int} (h : ∀ x ∈ zs, inC x = true) (k : Nat) (hk : k < zs.length) : inC zs[k] = true := h _ (List.getElem_mem hk)

/-- The constant k as an expression of n variables. -/
def constL (k n : Int) : Int × List Int := if cntB n = true ∧ inC k = true then (k, List.replicate n.toNat 0) else (0, [])
end LinM
end Go.Proofs.YtcdlgebbmcdadaaGreatDoor

/-
  Plain facts on names: which texts are reserved, which have the shape of a name, which are valid.
-/
namespace Go.Proofs.YtcdlgebbmcdadaaGreatDoor
namespace NameM

/-- Is this text among these texts? -/
def hasB (ss : List ByteArray) (s : ByteArray) : Bool := decide (s.data.toList ∈ ss.map fun t => t.data.toList)

theorem toList_inj {s t : ByteArray} (h : s.data.toList = t.data.toList) : s = t := by
  cases s; cases t; congr 1; exact Array.toList_inj.1 h
theorem hasB_iff {ss : List ByteArray} {s : ByteArray} : hasB ss s = true ↔ s ∈ ss := by
  unfold hasB
  rw [decide_eq_true_eq, List.mem_map]
  exact ⟨fun ⟨t, ht, e⟩ => toList_inj e ▸ ht, fun h => ⟨s, h, rfl⟩⟩
theorem hasB_hit {ss : List ByteArray} {s : ByteArray} (k : Nat) (h : ss[k]? = some s) : hasB ss s = true :=
  hasB_iff.2 (List.mem_of_getElem? h)
theorem hasB_miss {ss : List ByteArray} {s : ByteArray} (h : ∀ j, j < ss.length → ss[j]? ≠ some s) : hasB ss s = false := by
  cases e : hasB ss s with
  | false => rfl
  | true =>
    obtain ⟨j, hj⟩ := List.getElem?_of_mem (hasB_iff.1 e)
    exact absurd hj (h j (List.getElem?_eq_some_iff.1 hj).1)

/-- fun, pre, rule, return, nil. -/
def resList : List ByteArray := [⟨#[102, 117, 110]⟩, ⟨#[112, 114, 101]⟩, ⟨#[114, 117, 108, 101]⟩, ⟨#[114, 101, 116, 117, 114, 110]⟩, ⟨#[110, 105, 108]⟩]
def resv (s : ByteArray) : Bool := hasB resList s

def letter (c : UInt8) : Bool := decide (97 ≤ (c.toNat : Int)) && decide ((c.toNat : Int) ≤ 122)
def digit (c : UInt8) : Bool := decide (48 ≤ (c.toNat : Int)) && decide ((c.toNat : Int) ≤ 57)

/-- Starts with a letter, and holds letters and digits. -/
def shape : List UInt8 → Bool
  | [] => false
  | c :: l => letter c && l.all fun d => letter d || digit d

def validName (s : ByteArray) : Bool := shape s.data.toList && decide (s.size ≤ 8) && !resv s
def listName (s : ByteArray) : Bool := validName s && s.data.toList.getLast? == some 115

theorem shape_pos {s : ByteArray} (h : shape s.data.toList = true) : 0 < s.size := by
  rcases Nat.eq_zero_or_pos s.size with h0 | h0
  · have : s.data.toList = [] := by
      apply List.eq_nil_of_length_eq_zero
      simpa using h0
    rw [this] at h; simp [shape] at h
  · exact h0

/-- The byte at place k keeps the shape. -/
def fits (k : Nat) (c : UInt8) : Bool := letter c || (decide (k ≠ 0) && digit c)

theorem shape_iff (l : List UInt8) : shape l = true ↔ l ≠ [] ∧ ∀ k c, l[k]? = some c → fits k c = true := by
  cases l with
  | nil => simp [shape]
  | cons c l =>
    simp only [shape, Bool.and_eq_true, List.all_eq_true, ne_eq, reduceCtorEq, not_false_eq_true, true_and]
    constructor
    · rintro ⟨h1, h2⟩ k d hk
      cases k with
      | zero => simp at hk; subst hk; simp [fits, h1]
      | succ k =>
        have := h2 d (List.mem_of_getElem? (by simpa using hk))
        simpa [fits] using this
    · intro h
      refine ⟨by simpa [fits] using h 0 c (by simp), fun d hd => ?_⟩
      obtain ⟨k, hk⟩ := List.getElem?_of_mem hd
      simpa [fits] using h (k + 1) d (by simpa using hk)

theorem shape_no {l : List UInt8} (k : Nat) (c : UInt8) (h : l[k]? = some c) (hf : fits k c = false) : shape l = false := by
  cases hs : shape l with
  | false => rfl
  | true => rw [((shape_iff l).1 hs).2 k c h] at hf; cases hf
theorem shape_yes {l : List UInt8} (hn : l ≠ []) (h : ∀ k c, k < l.length → l[k]? = some c → fits k c = true) : shape l = true :=
  (shape_iff l).2 ⟨hn, fun k c hk => h k c (List.getElem?_eq_some_iff.1 hk).1 hk⟩

end NameM
end Go.Proofs.YtcdlgebbmcdadaaGreatDoor

/-
  Plain mathematics of reading a decimal numeral: 'rd lo hi l': the integer from lo to hi whose numeral is l; 'l1r': how the model reads it. Imports nothing of the program.
-/
namespace Go.Proofs.YtcdlgebbmcdadaaGreatDoor
namespace NumM
open Go.Lib

theorem decFrom_append (b : UInt8) : ∀ (l : List UInt8) (acc : Nat), decFrom acc (l ++ [b]) = (decFrom acc l).bind fun n => (digitVal b).map fun d => n * 10 + d
  | [], acc => by
    simp only [List.nil_append, decFrom, Option.bind_some]
    cases digitVal b <;> rfl
  | a :: t, acc => by
    simp only [List.cons_append, decFrom]
    cases ha : digitVal a with
    | none => rfl
    | some d => exact decFrom_append b t _

theorem digitVal_of (k : Nat) (h : k < 10) : digitVal (UInt8.ofNat (48 + k)) = some k := by
  unfold digitVal
  have e : (UInt8.ofNat (48 + k)).toNat = 48 + k := by rw [UInt8.toNat_ofNat']; omega
  rw [e, if_pos (by omega)]
  congr 1; omega

theorem decFrom_decDigits (u : Nat) : decFrom 0 (decDigits u) = some u := by
  induction u using Nat.strongRecOn with
  | _ u ih =>
    rw [decDigits]
    by_cases h : u < 10
    · rw [dif_pos h]
      simp only [decFrom, digitVal_of u h]
      simp
    · rw [dif_neg h, decFrom_append, ih (u / 10) (by omega), Option.bind_some, digitVal_of _ (by omega)]
      simp only [Option.map_some, Option.some.injEq]
      omega

theorem decDigits_ne (u : Nat) : decDigits u ≠ [] := by
  intro h
  have := decDigits_length u
  rw [h] at this
  have := nDigits_pos u
  simp at *
  omega

theorem decDigits_head (u : Nat) : ∃ b r, decDigits u = b :: r ∧ 48 ≤ b.toNat ∧ b.toNat ≤ 57 := by
  cases h : decDigits u with
  | nil => exact absurd h (decDigits_ne u)
  | cons b r =>
    refine ⟨b, r, rfl, ?_⟩
    have h1 := decFrom_decDigits u
    obtain ⟨d, hd⟩ := digit_of_decFrom _ _ _ h1 0 b (by rw [h]; rfl)
    have := digitVal_eq hd
    exact ⟨this.1, this.2.1⟩

theorem itoa_neg' {n : Int} (h : n < 0) : itoa n = 45 :: decDigits n.natAbs := by rw [itoa, if_pos h]
theorem itoa_nn {n : Int} (h : ¬ n < 0) : itoa n = decDigits n.toNat := by rw [itoa, if_neg h]

theorem atoi_itoa (n : Int) : atoi (itoa n) = some n := by
  by_cases h : n < 0
  · rw [itoa_neg' h]
    simp only [atoi, beq_self_eq_true, if_true, decNat]
    rw [if_neg (by simpa using decDigits_ne _), decFrom_decDigits]
    simp only [Option.map_some, Option.some.injEq]
    omega
  · rw [itoa_nn h]
    obtain ⟨b, r, he, h1, h2⟩ := decDigits_head n.toNat
    have hd := decFrom_decDigits n.toNat
    rw [he] at hd ⊢
    have n45 : (b == 45) = false := by
      rw [beq_eq_false_iff_ne]; rintro rfl; simp at h1
    have n43 : (b == 43) = false := by
      rw [beq_eq_false_iff_ne]; rintro rfl; simp at h1
    simp only [atoi, n45, n43, Bool.false_eq_true, if_false, decNat, List.isEmpty_cons]
    rw [hd]
    simp only [Option.map_some, Option.some.injEq]
    omega

theorem itoa_inj {m n : Int} (h : itoa m = itoa n) : m = n := by
  have h1 := atoi_itoa m
  rw [h, atoi_itoa n] at h1
  exact (Option.some.inj h1).symm

theorem pow10_lt_of_digits : ∀ (k u : Nat), u < 10 ^ (k + 1) → nDigits u ≤ k + 1
  | 0, u, h => by rw [nDigits_small (by simpa using h)]; exact Nat.le_refl _
  | k + 1, u, h => by
    by_cases h10 : u < 10
    · rw [nDigits_small h10]; omega
    · rw [nDigits_big h10]
      have := pow10_lt_of_digits k (u / 10) (by rw [Nat.pow_succ] at h; omega)
      omega

end NumM
end Go.Proofs.YtcdlgebbmcdadaaGreatDoor

/-
  Plain mathematics of the text form of linear expressions: what is written ('fmt'), what is read ('parseL'). Imports nothing of the program.
-/
namespace Go.Proofs.YtcdlgebbmcdadaaGreatDoor
namespace TextM
open Go.Lib (itoa decDigits idxOfS)
open NameM (letter digit)

/-- A term: its number and its name; the constant has no name. -/
abbrev TItem := Int × ByteArray

def word (x : Int) (nm : ByteArray) : List UInt8 := if x.natAbs = 1 ∧ nm.size ≠ 0 then nm.data.toList else itoa x.natAbs ++ nm.data.toList
def sgn (neg first : Bool) : List UInt8 := if first then (if neg then [45] else []) else (if neg then [32, 45, 32] else [32, 43, 32])
def addT (t : List UInt8) (p : TItem) : List UInt8 := t ++ (sgn (decide (p.1 < 0)) t.isEmpty ++ word p.1 p.2)
def addU (t : List UInt8) (p : TItem) : List UInt8 := if p.1 = 0 then t else addT t p
def terms (ps : List TItem) : List UInt8 := ps.foldl addU []
def mk (ss : List ByteArray) (z : Int) (zs : List Int) : List TItem := zs.zip ss ++ [(z, ByteArray.empty)]
/-- The representation. -/
def fmt (ss : List ByteArray) (z : Int) (zs : List Int) : List UInt8 := if terms (mk ss z zs) = [] then [48] else terms (mk ss z zs)

theorem itoa_nat (n : Nat) : itoa (n : Int) = decDigits n := by rw [NumM.itoa_nn (by omega), Int.toNat_natCast]
theorem size_list (s : ByteArray) : s.data.toList.length = s.size := by simp
theorem size_zero {s : ByteArray} (h : s.size = 0) : s.data.toList = [] := List.eq_nil_of_length_eq_zero (by rw [size_list, h])
theorem empty_list : ByteArray.empty.data.toList = [] := rfl
theorem mk_list (s : ByteArray) : (⟨s.data.toList.toArray⟩ : ByteArray) = s := by cases s; simp

theorem word_ne (x : Int) (nm : ByteArray) : word x nm ≠ [] := by
  unfold word
  split
  · rename_i h
    intro e
    have := congrArg List.length e
    rw [size_list] at this
    exact h.2 (by simpa using this)
  · rw [itoa_nat]
    intro e
    exact NumM.decDigits_ne _ (List.append_eq_nil_iff.1 e).1

/-- One term laid into the expression. -/
def step (ss : List ByteArray) (l : Int × List Int) (t : TItem) : Int × List Int :=
  if t.2.size = 0 then (t.1, l.2) else if 0 ≤ idxOfS ss t.2 ∧ idxOfS ss t.2 < l.2.length then (l.1, l.2.set (idxOfS ss t.2).toNat t.1) else l
def R (ss : List ByteArray) (ts : List TItem) : Int × List Int := ts.foldl (step ss) (0, List.replicate (min ss.length 8) 0)

theorem zip_mem {zs : List Int} {ss : List ByteArray} {p : TItem} (h : p ∈ zs.zip ss) : p.1 ∈ zs ∧ p.2 ∈ ss := ⟨(List.of_mem_zip h).1, (List.of_mem_zip h).2⟩
end TextM
end Go.Proofs.YtcdlgebbmcdadaaGreatDoor

/-
  Sorted texts, each once ('srt'): insertion one by one; what sorting and striking repetitions gives is the same.
-/
namespace Go.Proofs.YtcdlgebbmcdadaaGreatDoor
namespace SortM
abbrev Bytes := List UInt8

theorem lt_irrefl (a : Bytes) : ¬ a < a := List.lt_irrefl a
theorem lt_trans {a b c : Bytes} (h : a < b) (k : b < c) : a < c := List.lt_trans h k
theorem lt_asymm {a b : Bytes} (h : a < b) : ¬ b < a := List.lt_asymm h
theorem lt_of_le_ne {a b : Bytes} (h : a ≤ b) (k : a ≠ b) : a < b := by
  rcases Classical.em (a < b) with h1 | h1
  · exact h1
  · exact absurd (List.le_antisymm h (List.not_lt.1 h1)) k
theorem tri {a b : Bytes} (h : ¬ a < b) (k : a ≠ b) : b < a := lt_of_le_ne (List.not_lt.1 h) (fun e => k e.symm)
theorem lt_of_le_lt {a b c : Bytes} (h : a ≤ b) (k : b < c) : a < c := by
  rcases Classical.em (a = b) with e | e
  · exact e ▸ k
  · exact lt_trans (lt_of_le_ne h e) k

/-- Ascending, strictly. -/
abbrev Asc (l : List Bytes) : Prop := l.Pairwise fun a b => a < b

/-- Two ascending lists with the same elements are one. -/
theorem asc_unique : ∀ {l m : List Bytes}, Asc l → Asc m → (∀ x, x ∈ l ↔ x ∈ m) → l = m
  | [], [], _, _, _ => rfl
  | [], y :: m, _, _, h => absurd ((h y).2 (List.mem_cons_self ..)) (by simp)
  | x :: l, [], _, _, h => absurd ((h x).1 (List.mem_cons_self ..)) (by simp)
  | x :: l, y :: m, hl, hm, h => by
    obtain ⟨hx, hl'⟩ := List.pairwise_cons.1 hl
    obtain ⟨hy, hm'⟩ := List.pairwise_cons.1 hm
    have e : x = y := by
      rcases List.mem_cons.1 ((h x).1 (List.mem_cons_self ..)) with e | h1
      · exact e
      · rcases List.mem_cons.1 ((h y).2 (List.mem_cons_self ..)) with e | h2
        · exact e.symm
        · exact absurd (hy x h1) (lt_asymm (hx y h2))
    subst e
    rw [asc_unique hl' hm' (fun z => ?_)]
    constructor
    · intro hz
      rcases List.mem_cons.1 ((h z).1 (List.mem_cons_of_mem _ hz)) with e | h1
      · exact absurd (hx z hz) (by rw [e]; exact lt_irrefl _)
      · exact h1
    · intro hz
      rcases List.mem_cons.1 ((h z).2 (List.mem_cons_of_mem _ hz)) with e | h1
      · exact absurd (hy z hz) (by rw [e]; exact lt_irrefl _)
      · exact h1

/-- How many elements at the head are below x. -/
def pos (x : Bytes) (l : List Bytes) : Nat := (l.takeWhile fun y => decide (y < x)).length
theorem pos_le (x : Bytes) (l : List Bytes) : pos x l ≤ l.length := by
  unfold pos
  have h := List.takeWhile_append_dropWhile (p := fun y => decide (y < x)) (l := l)
  have h2 := congrArg List.length h
  simp only [List.length_append] at h2
  omega
theorem pos_below {x : Bytes} : ∀ {l : List Bytes} {j : Nat} {y : Bytes}, j < pos x l → l[j]? = some y → y < x
  | [], j, y, h, _ => by simp [pos] at h
  | z :: l, j, y, h, e => by
    unfold pos at h
    by_cases hz : z < x
    · rw [List.takeWhile_cons_of_pos (by simpa using hz)] at h
      cases j with
      | zero => simp at e; exact e ▸ hz
      | succ j => exact pos_below (l := l) (j := j) (by simpa [pos] using h) (by simpa using e)
    · rw [List.takeWhile_cons_of_neg (by simpa using hz)] at h
      simp at h
theorem pos_at {x : Bytes} : ∀ {l : List Bytes} {y : Bytes}, l[pos x l]? = some y → ¬ y < x
  | [], y, e => by simp at e
  | z :: l, y, e => by
    unfold pos at e
    by_cases hz : z < x
    · rw [List.takeWhile_cons_of_pos (by simpa using hz)] at e
      exact pos_at (l := l) (by simpa [pos] using e)
    · rw [List.takeWhile_cons_of_neg (by simpa using hz)] at e
      simp at e
      exact e ▸ hz
theorem pos_eq {x : Bytes} {l : List Bytes} {k : Nat} (h1 : k ≤ l.length) (h2 : ∀ j y, j < k → l[j]? = some y → y < x) (h3 : ∀ y, l[k]? = some y → ¬ y < x) : pos x l = k := by
  rcases Nat.lt_trichotomy (pos x l) k with h | h | h
  · have hl : pos x l < l.length := by omega
    exact absurd (h2 _ _ h (List.getElem?_eq_getElem hl)) (pos_at (List.getElem?_eq_getElem hl))
  · exact h
  · have hl : k < l.length := by have := pos_le x l; omega
    exact absurd (pos_below h (List.getElem?_eq_getElem hl)) (h3 _ (List.getElem?_eq_getElem hl))

/-- x put into its place, if it isn't there. -/
def ins (x : Bytes) (l : List Bytes) : List Bytes :=
  if l[pos x l]? = some x then l else l.take (pos x l) ++ [x] ++ l.drop (pos x l)

theorem mem_ins {x y : Bytes} {l : List Bytes} : y ∈ ins x l ↔ y = x ∨ y ∈ l := by
  unfold ins
  split
  · rename_i h
    exact ⟨Or.inr, fun h1 => h1.elim (fun e => e ▸ List.mem_of_getElem? h) id⟩
  · have h := List.take_append_drop (pos x l) l
    constructor
    · intro h1
      simp only [List.mem_append, List.mem_singleton] at h1
      rcases h1 with (h1 | h1) | h1
      · exact Or.inr (List.mem_of_mem_take h1)
      · exact Or.inl h1
      · exact Or.inr (List.mem_of_mem_drop h1)
    · rintro (h1 | h1)
      · simp [h1]
      · rw [← h] at h1
        simp only [List.mem_append, List.mem_singleton] at h1 ⊢
        rcases h1 with h1 | h1
        · exact Or.inl (Or.inl h1)
        · exact Or.inr h1

theorem asc_get {l : List Bytes} (h : Asc l) {i j : Nat} {a b : Bytes} (hij : i < j) (ha : l[i]? = some a) (hb : l[j]? = some b) : a < b := by
  obtain ⟨hi, rfl⟩ := List.getElem?_eq_some_iff.1 ha
  obtain ⟨hj, rfl⟩ := List.getElem?_eq_some_iff.1 hb
  exact List.pairwise_iff_getElem.1 h i j hi hj hij

theorem asc_ins {x : Bytes} {l : List Bytes} (h : Asc l) : Asc (ins x l) := by
  unfold ins
  split
  · exact h
  · rename_i hne
    have hlow : ∀ y ∈ l.take (pos x l), y < x := fun y hy => by
      obtain ⟨j, hj⟩ := List.getElem?_of_mem hy
      rw [List.getElem?_take] at hj
      split at hj
      · exact pos_below ‹_› hj
      · cases hj
    have hhigh : ∀ y ∈ l.drop (pos x l), x < y := fun y hy => by
      obtain ⟨j, hj⟩ := List.getElem?_of_mem hy
      rw [List.getElem?_drop] at hj
      have hp : pos x l < l.length := by
        have := (List.getElem?_eq_some_iff.1 hj).1
        omega
      have h0 := List.getElem?_eq_getElem hp
      have hlt : x < l[pos x l] := tri (pos_at h0) (fun e => hne (by rw [h0, e]))
      cases j with
      | zero =>
        rw [Nat.add_zero, h0] at hj
        exact Option.some.inj hj ▸ hlt
      | succ j => exact lt_trans hlt (asc_get h (by omega) h0 hj)
    refine List.pairwise_append.2 ⟨List.pairwise_append.2 ⟨h.sublist (List.take_sublist _ _), List.pairwise_singleton _ _, fun a ha b hb => ?_⟩, h.sublist (List.drop_sublist _ _), fun a ha b hb => ?_⟩
    · rw [List.mem_singleton.1 hb]; exact hlow a ha
    · rcases List.mem_append.1 ha with ha | ha
      · exact lt_trans (hlow a ha) (hhigh b hb)
      · rw [List.mem_singleton.1 ha]; exact hhigh b hb

/-- Sorted, each once. -/
def srt (l : List Bytes) : List Bytes := l.foldl (fun o x => ins x o) []
theorem srt_snoc (l : List Bytes) (x : Bytes) : srt (l ++ [x]) = ins x (srt l) := by simp [srt, List.foldl_append]
theorem srt_gen : ∀ (l o : List Bytes), Asc o → Asc (l.foldl (fun o x => ins x o) o) ∧ ∀ y, y ∈ l.foldl (fun o x => ins x o) o ↔ y ∈ l ∨ y ∈ o
  | [], o, h => ⟨h, fun y => by simp⟩
  | x :: l, o, h => by
    obtain ⟨h1, h2⟩ := srt_gen l (ins x o) (asc_ins h)
    refine ⟨h1, fun y => ?_⟩
    rw [List.foldl_cons, h2 y, mem_ins, List.mem_cons]
    constructor
    · rintro (h | h | h)
      · exact Or.inl (Or.inr h)
      · exact Or.inl (Or.inl h)
      · exact Or.inr h
    · rintro ((h | h) | h)
      · exact Or.inr (Or.inl h)
      · exact Or.inl h
      · exact Or.inr (Or.inr h)
theorem srt_asc (l : List Bytes) : Asc (srt l) := (srt_gen l [] List.Pairwise.nil).1
theorem mem_srt {l : List Bytes} {y : Bytes} : y ∈ srt l ↔ y ∈ l := by
  have := (srt_gen l [] List.Pairwise.nil).2 y
  simpa [srt] using this
theorem ins_length (x : Bytes) (l : List Bytes) : (ins x l).length ≤ l.length + 1 := by
  unfold ins
  split
  · omega
  · have := pos_le x l
    simp only [List.length_append, List.length_take, List.length_drop, List.length_cons, List.length_nil]
    omega
theorem srt_length (l : List Bytes) : (srt l).length ≤ l.length := by
  have gen : ∀ (l o : List Bytes), (l.foldl (fun o x => ins x o) o).length ≤ l.length + o.length := by
    intro l
    induction l with
    | nil => intro o; simp
    | cons x l ih =>
      intro o
      have h1 := ih (ins x o)
      have h2 := ins_length x o
      simp only [List.foldl_cons, List.length_cons]
      omega
  simpa [srt] using gen l []

/-- Striking the repetitions of a list that does not descend. -/
theorem compact_gen (d : Array Bytes) (hs : ∀ i j, i < j → j < d.size → d[i]! ≤ d[j]!) : ∀ m, m ≤ d.size → Asc (Lib.compactUpTo d m) ∧ ∀ y, y ∈ Lib.compactUpTo d m ↔ ∃ j, j < m ∧ d[j]! = y
  | 0, _ => ⟨by simp [Lib.compactUpTo], fun y => by simp [Lib.compactUpTo]⟩
  | m + 1, hm => by
    obtain ⟨h1, h2⟩ := compact_gen d hs m (by omega)
    rw [Lib.compactUpTo_succ]
    by_cases hk : Lib.keeps d m = true
    · rw [if_pos hk]
      refine ⟨List.pairwise_append.2 ⟨h1, List.pairwise_singleton _ _, fun a ha b hb => ?_⟩, fun y => ?_⟩
      · obtain ⟨j, hj, rfl⟩ := (h2 a).1 ha
        rw [List.mem_singleton.1 hb]
        simp only [Lib.keeps, decide_eq_true_eq] at hk
        rcases hk with hk | hk
        · omega
        · have hl : d[m - 1]! < d[m]! := lt_of_le_ne (hs _ _ (by omega) (by omega)) (fun e => hk e.symm)
          by_cases e : j = m - 1
          · rw [e]; exact hl
          · exact lt_of_le_lt (hs j (m - 1) (by omega) (by omega)) hl
      · rw [List.mem_append, h2 y, List.mem_singleton]
        constructor
        · rintro (⟨j, hj, e⟩ | e)
          · exact ⟨j, by omega, e⟩
          · exact ⟨m, by omega, e.symm⟩
        · rintro ⟨j, hj, e⟩
          by_cases hjm : j = m
          · exact Or.inr (hjm ▸ e.symm)
          · exact Or.inl ⟨j, by omega, e⟩
    · rw [if_neg hk, List.append_nil]
      refine ⟨h1, fun y => ?_⟩
      rw [h2 y]
      simp only [Lib.keeps, decide_eq_true_eq, not_or, ne_eq, Classical.not_not] at hk
      constructor
      · rintro ⟨j, hj, e⟩; exact ⟨j, by omega, e⟩
      · rintro ⟨j, hj, e⟩
        by_cases hjm : j = m
        · exact ⟨m - 1, by omega, by rw [← hk.2, ← hjm]; exact e⟩
        · exact ⟨j, by omega, e⟩

theorem compact_sort (l : List Bytes) : Lib.compact (l.mergeSort fun x y => decide (x ≤ y)) = srt l := by
  have hp : (l.mergeSort fun x y => decide (x ≤ y)).Pairwise fun a b => (decide (a ≤ b)) = true :=
    List.pairwise_mergeSort (fun a b c h k => by simp only [decide_eq_true_eq] at *; exact List.le_trans h k) (fun a b => by simpa using List.le_total a b) l
  have hm := List.mergeSort_perm l fun x y => decide (x ≤ y)
  generalize (l.mergeSort fun x y => decide (x ≤ y)) = s at hp hm
  have hs : ∀ i j, i < j → j < s.toArray.size → s.toArray[i]! ≤ s.toArray[j]! := fun i j hij hj => by
    have hj' : j < s.length := by simpa using hj
    have := List.pairwise_iff_getElem.1 hp i j (by omega) hj' hij
    simpa [getElem!_pos, hj', show i < s.length by omega] using this
  obtain ⟨h1, h2⟩ := compact_gen s.toArray hs s.length (by simp)
  refine asc_unique h1 (srt_asc l) (fun x => ?_)
  show x ∈ Lib.compactUpTo s.toArray s.length ↔ _
  rw [h2 x, mem_srt, ← hm.mem_iff]
  constructor
  · rintro ⟨j, hj, rfl⟩
    rw [getElem!_pos _ _ (by simpa using hj)]
    simp
  · intro hx
    obtain ⟨j, hj⟩ := List.getElem?_of_mem hx
    have hjl := (List.getElem?_eq_some_iff.1 hj).1
    exact ⟨j, hjl, by rw [getElem!_pos _ _ (by simpa using hjl)]; simpa using (List.getElem?_eq_some_iff.1 hj).2⟩

/-- The same on texts. -/
def srtB (ss : List ByteArray) : List ByteArray := (srt (ss.map fun s => s.data.toList)).map fun l => ⟨l.toArray⟩
theorem srtB_length (ss : List ByteArray) : (srtB ss).length ≤ ss.length := by
  have := srt_length (ss.map fun s => s.data.toList)
  simpa [srtB] using this
theorem srtB_data (ss : List ByteArray) : (srtB ss).map (fun s => s.data.toList) = srt (ss.map fun s => s.data.toList) := by
  simp [srtB, List.map_map, Function.comp_def]

theorem ins_there {x : Bytes} {l : List Bytes} (h : Asc l) (hx : x ∈ l) : ins x l = l := by
  obtain ⟨j, hj⟩ := List.getElem?_of_mem hx
  have hjl := (List.getElem?_eq_some_iff.1 hj).1
  have e : pos x l = j := pos_eq (by omega) (fun i y hi hy => asc_get h hi hy hj) (fun y hy => by rw [hj] at hy; rw [Option.some.inj hy]; exact lt_irrefl _)
  unfold ins
  rw [if_pos (by rw [e]; exact hj)]
theorem ins_new {x : Bytes} {l : List Bytes} (hx : x ∉ l) : (ins x l).length = l.length + 1 := by
  unfold ins
  have := pos_le x l
  rw [if_neg (fun h => hx (List.mem_of_getElem? h))]
  simp only [List.length_append, List.length_take, List.length_drop, List.length_cons, List.length_nil]
  omega

/-- No element is among those before it: what sorting leaves is as long. -/
theorem take_step (l : List Bytes) (k : Nat) (x : Bytes) (hk : l[k]? = some x) : srt (l.take (k + 1)) = ins x (srt (l.take k)) := by
  rw [List.take_add_one, hk]
  exact srt_snoc _ _
theorem dist_step {l : List Bytes} {k : Nat} {x : Bytes} (hk : l[k]? = some x) (h : (srt (l.take k)).length = k) (hx : x ∉ l.take k) : (srt (l.take (k + 1))).length = k + 1 := by
  rw [take_step l k x hk, ins_new (fun h => hx (mem_srt.1 h)), h]
theorem srt_take_le (l : List Bytes) (k : Nat) : (srt l).length ≤ (srt (l.take k)).length + (l.length - k) := by
  have gen : ∀ (r o : List Bytes), (r.foldl (fun o x => ins x o) o).length ≤ o.length + r.length := by
    intro r
    induction r with
    | nil => intro o; simp
    | cons x r ih =>
      intro o
      have h1 := ih (ins x o)
      have h2 := ins_length x o
      simp only [List.foldl_cons, List.length_cons]
      omega
  have e : srt l = (l.drop k).foldl (fun o x => ins x o) (srt (l.take k)) := by
    unfold srt
    rw [← List.foldl_append, List.take_append_drop]
  rw [e]
  have := gen (l.drop k) (srt (l.take k))
  rw [List.length_drop] at this
  exact this
theorem dist_no {l : List Bytes} {k : Nat} {x : Bytes} (hk : l[k]? = some x) (hx : x ∈ l.take k) : (srt l).length < l.length := by
  have hkl := (List.getElem?_eq_some_iff.1 hk).1
  have h1 := srt_take_le l (k + 1)
  rw [take_step l k x hk, ins_there (srt_asc _) (mem_srt.2 hx)] at h1
  have h2 := srt_length (l.take k)
  rw [List.length_take] at h2
  omega
end SortM
end Go.Proofs.YtcdlgebbmcdadaaGreatDoor

/-
  Plain mathematics of splitting at " : ". Imports nothing of the program.
-/
namespace Go.Proofs.YtcdlgebbmcdadaaGreatDoor
namespace ArgSp
open Go.Lib

/-- " : " -/
abbrev sep : List UInt8 := [32, 58, 32]
end ArgSp
end Go.Proofs.YtcdlgebbmcdadaaGreatDoor

/-
  Plain mathematics of sums and arguments: which are valid, how they are written, what is read. Imports nothing of the program.
-/
namespace Go.Proofs.YtcdlgebbmcdadaaGreatDoor
namespace ArgM
open TextM NameM SortM

abbrev Sm := Int × List TItem
def intName (s : ByteArray) : Bool := validName s && !listName s
/-- A term of a valid sum. -/
def termV (t : TItem) : Bool := decide (t.1 ≠ 0) && ArithM.inF t.1 && intName t.2
def ascN (a b : TItem) : Bool := decide (a.2.data.toList < b.2.data.toList)
def ordT : List TItem → Bool
  | a :: b :: r => ascN a b && ordT (b :: r)
  | _ => true
theorem ordT_iff : ∀ {ts : List TItem}, ordT ts = true ↔ ∀ k a b, ts[k]? = some a → ts[k + 1]? = some b → ascN a b = true
  | [] => ⟨fun _ k a b h => by simp at h, fun _ => rfl⟩
  | [a] => ⟨fun _ k a b _ h => by simp at h, fun _ => rfl⟩
  | x :: y :: r => by
    rw [ordT, Bool.and_eq_true, ordT_iff (ts := y :: r)]
    constructor
    · rintro ⟨h1, h2⟩ k a b ha hb
      cases k with
      | zero =>
        simp only [List.getElem?_cons_zero, Option.some.injEq, Nat.zero_add, List.getElem?_cons_succ] at ha hb
        subst ha; subst hb
        exact h1
      | succ k => exact h2 k a b (by simpa using ha) (by simpa using hb)
    · intro h
      exact ⟨h 0 x y rfl rfl, fun k a b ha hb => h (k + 1) a b (by simpa using ha) (by simpa using hb)⟩
def sumV (s : Sm) : Bool := ArithM.inF s.1 && decide (s.2.length ≤ 4) && (s.2.all termV && ordT s.2)
theorem sumV_iff {s : Sm} : sumV s = true ↔ ArithM.inF s.1 = true ∧ s.2.length ≤ 4 ∧ (∀ t ∈ s.2, termV t = true) ∧ ordT s.2 = true := by
  simp only [sumV, Bool.and_eq_true, decide_eq_true_eq, List.all_eq_true]
  exact ⟨fun ⟨⟨a, b⟩, c, d⟩ => ⟨a, b, c, d⟩, fun ⟨a, b, c, d⟩ => ⟨⟨a, b⟩, c, d⟩⟩
theorem termV_iff {t : TItem} : termV t = true ↔ t.1 ≠ 0 ∧ ArithM.inF t.1 = true ∧ intName t.2 = true := by
  simp only [termV, Bool.and_eq_true, decide_eq_true_eq]
  exact ⟨fun ⟨⟨a, b⟩, c⟩ => ⟨a, b, c⟩, fun ⟨a, b, c⟩ => ⟨⟨a, b⟩, c⟩⟩
theorem intName_valid {s : ByteArray} (h : intName s = true) : validName s = true := by
  simp only [intName, Bool.and_eq_true] at h
  exact h.1
theorem valid_shape {s : ByteArray} (h : validName s = true) : NameM.shape s.data.toList = true ∧ s.size ≤ 8 := by
  simp only [validName, Bool.and_eq_true, decide_eq_true_eq] at h
  exact h.1
theorem asc_head : ∀ {ts : List TItem} {a : TItem}, ordT (a :: ts) = true → ∀ t ∈ ts, a.2.data.toList < t.2.data.toList
  | [], _, _, _, h => by cases h
  | b :: r, a, h, t, ht => by
    rw [ordT, Bool.and_eq_true] at h
    have h1 : a.2.data.toList < b.2.data.toList := by simpa [ascN] using h.1
    rcases List.mem_cons.1 ht with rfl | ht
    · exact h1
    · exact lt_trans h1 (asc_head h.2 t ht)
theorem ordT_tail {a : TItem} {ts : List TItem} (h : ordT (a :: ts) = true) : ordT ts = true := by
  cases ts with
  | nil => rfl
  | cons b r =>
    rw [ordT, Bool.and_eq_true] at h
    exact h.2
theorem asc_get : ∀ {ts : List TItem}, ordT ts = true → ∀ (i j : Nat) a b, i < j → ts[i]? = some a → ts[j]? = some b → a.2.data.toList < b.2.data.toList
  | [], _, i, j, a, b, _, h, _ => by simp at h
  | x :: ts, h, 0, j + 1, a, b, _, ha, hb => by
    simp only [List.getElem?_cons_zero, Option.some.injEq, List.getElem?_cons_succ] at ha hb
    subst ha
    exact asc_head h b (List.mem_of_getElem? hb)
  | x :: ts, h, i + 1, j + 1, a, b, hij, ha, hb => asc_get (ordT_tail h) i j a b (by omega) (by simpa using ha) (by simpa using hb)
abbrev nms (s : Sm) : List ByteArray := s.2.map (·.2)
abbrev cfs (s : Sm) : List Int := s.2.map (·.1)
/-- How a sum is written. -/
def fmtS (s : Sm) : List UInt8 := fmt (nms s) s.1 (cfs s)
/-- Nothing where the sum isn't valid. -/
def FS (s : Sm) : List UInt8 := if sumV s = true then fmtS s else []
/-- What stands behind the heads. -/
def baseT (b : ByteArray) : List UInt8 := if b.size = 0 then [110, 105, 108] else b.data.toList
def baseV (b : ByteArray) : Bool := decide (b.size = 0) || listName b
theorem list_valid {b : ByteArray} (h : listName b = true) : validName b = true := by
  simp only [listName, Bool.and_eq_true] at h
  exact h.1
abbrev Ag := Bool × List Sm × ByteArray
def argV (a : Ag) : Bool := a.2.1.all sumV && (if a.1 then decide (a.2.1.length ≤ 3) && baseV a.2.2 else decide (a.2.1.length = 1) && decide (a.2.2.size = 0))
def headsT (hs : List Sm) : List UInt8 := (hs.map fun h => fmtS h ++ ArgSp.sep).flatten
def fmtA (a : Ag) : List UInt8 := if a.1 then headsT a.2.1 ++ baseT a.2.2 else fmtS (a.2.1.headD (0, []))
def FA (a : Ag) : List UInt8 := if argV a = true then fmtA a else []
theorem argV_list {hs : List Sm} {b : ByteArray} : argV (true, hs, b) = true ↔ (∀ h ∈ hs, sumV h = true) ∧ hs.length ≤ 3 ∧ baseV b = true := by
  simp [argV]
theorem argV_int {hs : List Sm} {b : ByteArray} : argV (false, hs, b) = true ↔ ∃ h, hs = [h] ∧ sumV h = true ∧ b.size = 0 := by
  constructor
  · intro h
    simp only [argV, Bool.and_eq_true, List.all_eq_true, decide_eq_true_eq, Bool.false_eq_true, if_false] at h
    obtain ⟨h1, h2, h3⟩ := h
    obtain ⟨x, rfl⟩ : ∃ x, hs = [x] := by
      match hs, h2 with
      | [x], _ => exact ⟨x, rfl⟩
    exact ⟨x, rfl, h1 x List.mem_cons_self, h3⟩
  · rintro ⟨x, rfl, h1, h2⟩
    simp [argV, h1, h2]
end ArgM
end Go.Proofs.YtcdlgebbmcdadaaGreatDoor
