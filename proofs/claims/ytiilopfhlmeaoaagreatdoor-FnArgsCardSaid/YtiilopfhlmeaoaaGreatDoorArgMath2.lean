import Derived.Lib.ItoaNum
import Derived.Lib.Atoi
import Derived.Lib.AtoiTie
import Derived.Lib.AtoiAll
import Derived.Lib.Split
import Derived.Lib.SplitLaws
import Derived.Lib.IndexBytes
import Derived.Lib.Bytealg
import Derived.Lib.Join
import Derived.WideShapes
import Derived.Lib.SlicesS
import Derived.Lib.SlicesCompact
import Derived.Lib.RowBridge
import Derived.Lib.CountLaws
import Derived.Lib.IndexMore
/-
  Plain facts on bounded numbers: sums and products within limits, greatest common divisors by remainders, quotients rounded down.
-/
namespace Go.Proofs.YtiilopfhlmeaoaaGreatDoor
namespace ArithM

/-- Is the number within the limits of expressions? -/
def inC (z : Int) : Bool := decide (-1000000000 ≤ z) && decide (z ≤ 1000000000)
/-- Is the number within the limits of programs? -/
def inF (z : Int) : Bool := decide (-1000000 ≤ z) && decide (z ≤ 1000000)

theorem inC_iff {z : Int} : inC z = true ↔ -1000000000 ≤ z ∧ z ≤ 1000000000 := by simp [inC]
theorem inF_iff {z : Int} : inF z = true ↔ -1000000 ≤ z ∧ z ≤ 1000000 := by simp [inF]

end ArithM
end Go.Proofs.YtiilopfhlmeaoaaGreatDoor

/-
  Plain facts on linear expressions: validity, values, scaled sums, tightened constraints.
-/
namespace Go.Proofs.YtiilopfhlmeaoaaGreatDoor
namespace LinM
open ArithM

/-- Are there expressions of n variables? -/
def cntB (n : Int) : Bool := decide (0 ≤ n) && decide (n ≤ 8)
theorem cntB_iff {n : Int} : cntB n = true ↔ 0 ≤ n ∧ n ≤ 8 := by simp [cntB]
/-- Is the expression one of n variables within the limits? -/
def vldB (z : Int) (zs : List Int) (n : Int) : Bool := (cntB n && decide ((zs.length : Int) = n)) && (inC z && zs.all inC)

theorem vldB_iff {z : Int} {zs : List Int} {n : Int} : vldB z zs n = true ↔ (0 ≤ n ∧ n ≤ 8) ∧ (zs.length : Int) = n ∧ inC z = true ∧ ∀ x ∈ zs, inC x = true := by
  simp only [vldB, Bool.and_eq_true, cntB_iff, decide_eq_true_eq, List.all_eq_true]
  constructor
  · rintro ⟨⟨h1, h2⟩, h3, h4⟩; exact ⟨h1, h2, h3, h4⟩
  · rintro ⟨h1, h2, h3, h4⟩; exact ⟨⟨h1, h2⟩, h3, h4⟩
theorem vldB_false_head {z : Int} {zs : List Int} {n : Int} (h : cntB n = false ∨ (zs.length : Int) ≠ n ∨ inC z = false) : vldB z zs n = false := by
  rcases h with h | h | h <;> simp [vldB, h]
theorem all_get {zs : List Int} (h : ∀ x ∈ zs, inC x = true) (k : Nat) (hk : k < zs.length) : inC zs[k] = true := h _ (List.getElem_mem hk)

/-- The constant k as an expression of n variables. -/
def constL (k n : Int) : Int × List Int := if cntB n = true ∧ inC k = true then (k, List.replicate n.toNat 0) else (0, [])
end LinM
end Go.Proofs.YtiilopfhlmeaoaaGreatDoor

/-
  Plain mathematics of reading a decimal numeral: 'rd lo hi l': the integer from lo to hi whose numeral is l; 'l1r': how the model reads it. Imports nothing of the program.
-/
namespace Go.Proofs.YtiilopfhlmeaoaaGreatDoor
namespace NumM
open Go.Lib

theorem decFrom_append (b : UInt8) : ∀ (l : List UInt8) (acc : Nat), decFrom acc (l ++ [b]) = (decFrom acc l).bind fun n => (digitVal b).map fun d => n * 10 + d
  | [], acc => by
    simp only [List.nil_append, decFrom, Option.bind_some]
    cases digitVal b <;> rfl
  | a :: t, acc => by
    simp only [List.cons_append, decFrom]
    cases ha : digitVal a with
    | none => rfl
    | some d => exact decFrom_append b t _

theorem digitVal_of (k : Nat) (h : k < 10) : digitVal (UInt8.ofNat (48 + k)) = some k := by
  unfold digitVal
  have e : (UInt8.ofNat (48 + k)).toNat = 48 + k := by rw [UInt8.toNat_ofNat']; omega
  rw [e, if_pos (by omega)]
  congr 1; omega

theorem decFrom_decDigits (u : Nat) : decFrom 0 (decDigits u) = some u := by
  induction u using Nat.strongRecOn with
  | _ u ih =>
    rw [decDigits]
    by_cases h : u < 10
    · rw [dif_pos h]
      simp only [decFrom, digitVal_of u h]
      simp
    · rw [dif_neg h, decFrom_append, ih (u / 10) (by omega), Option.bind_some, digitVal_of _ (by omega)]
      simp only [Option.map_some, Option.some.injEq]
      omega

theorem decDigits_ne (u : Nat) : decDigits u ≠ [] := by
  intro h
  have := decDigits_length u
  rw [h] at this
  have := nDigits_pos u
  simp at *
  omega

theorem decDigits_head (u : Nat) : ∃ b r, decDigits u = b :: r ∧ 48 ≤ b.toNat ∧ b.toNat ≤ 57 := by
  cases h : decDigits u with
  | nil => exact absurd h (decDigits_ne u)
  | cons b r =>
    refine ⟨b, r, rfl, ?_⟩
    have h1 := decFrom_decDigits u
    obtain ⟨d, hd⟩ := digit_of_decFrom _ _ _ h1 0 b (by rw [h]; rfl)
    have := digitVal_eq hd
    exact ⟨this.1, this.2.1⟩

theorem itoa_neg' {n : Int} (h : n < 0) : itoa n = 45 :: decDigits n.natAbs := by rw [itoa, if_pos h]
theorem itoa_nn {n : Int} (h : ¬ n < 0) : itoa n = decDigits n.toNat := by rw [itoa, if_neg h]

theorem atoi_itoa (n : Int) : atoi (itoa n) = some n := by
  by_cases h : n < 0
  · rw [itoa_neg' h]
    simp only [atoi, beq_self_eq_true, if_true, decNat]
    rw [if_neg (by simpa using decDigits_ne _), decFrom_decDigits]
    simp only [Option.map_some, Option.some.injEq]
    omega
  · rw [itoa_nn h]
    obtain ⟨b, r, he, h1, h2⟩ := decDigits_head n.toNat
    have hd := decFrom_decDigits n.toNat
    rw [he] at hd ⊢
    have n45 : (b == 45) = false := by
      rw [beq_eq_false_iff_ne]; rintro rfl; simp at h1
    have n43 : (b == 43) = false := by
      rw [beq_eq_false_iff_ne]; rintro rfl; simp at h1
    simp only [atoi, n45, n43, Bool.false_eq_true, if_false, decNat, List.isEmpty_cons]
    rw [hd]
    simp only [Option.map_some, Option.some.injEq]
    omega

theorem itoa_inj {m n : Int} (h : itoa m = itoa n) : m = n := by
  have h1 := atoi_itoa m
  rw [h, atoi_itoa n] at h1
  exact (Option.some.inj h1).symm

/-- The integer from lo to hi whose decimal numeral is l. -/
def rd (lo hi : Int) (l : List UInt8) : Option Int :=
  match atoi l with
  | some n => if lo ≤ n ∧ n ≤ hi ∧ itoa n = l then some n else none
  | none => none

theorem rd_some {lo hi : Int} {l : List UInt8} {n : Int} : rd lo hi l = some n ↔ lo ≤ n ∧ n ≤ hi ∧ itoa n = l := by
  constructor
  · intro h
    unfold rd at h
    split at h
    · split at h
      · rename_i hc
        obtain rfl := Option.some.inj h
        exact hc
      · cases h
    · cases h
  · rintro ⟨h1, h2, rfl⟩
    unfold rd
    rw [atoi_itoa]
    simp [h1, h2]

theorem rd_none {lo hi : Int} {l : List UInt8} : rd lo hi l = none ↔ ∀ n, lo ≤ n → n ≤ hi → itoa n ≠ l := by
  constructor
  · intro h n h1 h2 h3
    rw [rd_some.2 ⟨h1, h2, h3⟩] at h
    cases h
  · intro h
    cases hr : rd lo hi l with
    | none => rfl
    | some n =>
      obtain ⟨h1, h2, h3⟩ := rd_some.1 hr
      exact absurd h3 (h n h1 h2)

theorem pow10_lt_of_digits : ∀ (k u : Nat), u < 10 ^ (k + 1) → nDigits u ≤ k + 1
  | 0, u, h => by rw [nDigits_small (by simpa using h)]; exact Nat.le_refl _
  | k + 1, u, h => by
    by_cases h10 : u < 10
    · rw [nDigits_small h10]; omega
    · rw [nDigits_big h10]
      have := pow10_lt_of_digits k (u / 10) (by rw [Nat.pow_succ] at h; omega)
      omega

/-- The numeral without its sign. -/
def body (l : List UInt8) : List UInt8 := if l.head? = some 45 then l.tail else l

theorem body_itoa (n : Int) : body (itoa n) = decDigits n.natAbs ∧ ((itoa n).head? = some 45 ↔ n < 0) := by
  by_cases h : n < 0
  · rw [itoa_neg' h]
    simp [body, h]
  · rw [itoa_nn h]
    obtain ⟨b, r, he, h1, _⟩ := decDigits_head n.toNat
    have hb : ¬ (decDigits n.toNat).head? = some 45 := by
      rw [he]
      simp only [List.head?_cons, Option.some.injEq]
      rintro rfl
      simp at h1
    refine ⟨?_, by simp [hb, h]⟩
    rw [body, if_neg hb]
    congr 1; omega

/-- What the model makes of the digits: the number with its sign. -/
def signed (l : List UInt8) (v : Nat) : Int := if l.head? = some 45 then -(v : Int) else v

/-- How the model reads: the digits one by one, then the numeral of what came out held against the text. -/
def l1r (most : Nat) (l : List UInt8) : Option Int :=
  if (body l).length < 1 ∨ most < (body l).length then none
  else match decFrom 0 (body l) with
    | none => none
    | some v => if itoa (signed l v) = l then some (signed l v) else none

theorem l1r_eq (k : Nat) (l : List UInt8) : l1r (k + 1) l = rd (-(10 ^ (k + 1) : Nat) + 1) ((10 ^ (k + 1) : Nat) - 1) l := by
  cases hr : rd (-(10 ^ (k + 1) : Nat) + 1) ((10 ^ (k + 1) : Nat) - 1) l with
  | some n =>
    obtain ⟨h1, h2, rfl⟩ := rd_some.1 hr
    obtain ⟨hb, hs⟩ := body_itoa n
    have hlen := pow10_lt_of_digits k n.natAbs (by omega)
    have hp := nDigits_pos n.natAbs
    have hsg : signed (itoa n) n.natAbs = n := by
      unfold signed
      split
      · rename_i h; have := hs.1 h; omega
      · rename_i h; have : ¬ n < 0 := fun hh => h (hs.2 hh); omega
    unfold l1r
    rw [hb, decDigits_length, if_neg (by omega), decFrom_decDigits]
    simp only [hsg, if_true]
  | none =>
    rw [rd_none] at hr
    unfold l1r
    split
    · rfl
    · rename_i hl
      cases hd : decFrom 0 (body l) with
      | none => rfl
      | some v =>
        simp only
        split
        · rename_i he
          exfalso
          have hlt := decFrom_lt _ _ _ hd
          have hpow : 10 ^ (body l).length ≤ 10 ^ (k + 1) := Nat.pow_le_pow_right (by decide) (by omega)
          refine hr (signed l v) ?_ ?_ he
          · unfold signed; split <;> omega
          · unfold signed; split <;> omega
        · rfl

/-- Every character a digit or not: what the model's loop knows after k of them. -/
theorem decFrom_stop {l : List UInt8} {k : Nat} {b : UInt8} (hb : l[k]? = some b) (hd : digitVal b = none) : decFrom 0 l = none := by
  cases h : decFrom 0 l with
  | none => rfl
  | some n =>
    obtain ⟨d, hd'⟩ := digit_of_decFrom _ _ _ h k b hb
    rw [hd] at hd'
    cases hd'

/-- The library's reader at a short text. -/
theorem atoiAll_itoa (n : Int) (h0 : -1000000000000 < n) (h1 : n < 1000000000000) : atoiAll (itoa n) = .ok n := by
  have hl : (itoa n).length ≤ 18 := by
    obtain ⟨hb, hs⟩ := body_itoa n
    have h := pow10_lt_of_digits 11 n.natAbs (by omega)
    by_cases hn : n < 0
    · rw [itoa_neg' hn, List.length_cons, decDigits_length]; omega
    · rw [itoa_nn hn, decDigits_length]
      have : n.toNat = n.natAbs := by omega
      rw [this]; omega
  rw [atoiAll_short _ hl, atoi_itoa]
  rfl

theorem rd_of_ok {lo hi : Int} (h0 : -1000000000000 < lo) (h1 : hi < 1000000000000) {l : List UInt8} {v : Int} (h : atoiAll l = .ok v) : rd lo hi l = if lo ≤ v ∧ v ≤ hi ∧ itoa v = l then some v else none := by
  split
  · rename_i hc; exact rd_some.2 hc
  · rename_i hc
    refine rd_none.2 fun n a b e => hc ?_
    subst e
    rw [atoiAll_itoa n (by omega) (by omega)] at h
    obtain rfl : n = v := by simpa using h
    exact ⟨a, b, rfl⟩

end NumM
end Go.Proofs.YtiilopfhlmeaoaaGreatDoor

/-
  Plain facts on names: which texts are reserved, which have the shape of a name, which are valid.
-/
namespace Go.Proofs.YtiilopfhlmeaoaaGreatDoor
namespace NameM

/-- Is this text among these texts? -/
def hasB (ss : List ByteArray) (s : ByteArray) : Bool := decide (s.data.toList ∈ ss.map fun t => t.data.toList)

theorem toList_inj {s t : ByteArray} (h : s.data.toList = t.data.toList) : s = t := by
  cases s; cases t; congr 1; exact Array.toList_inj.1 h
theorem hasB_iff {ss : List ByteArray} {s : ByteArray} : hasB ss s = true ↔ s ∈ ss := by
  unfold hasB
  rw [decide_eq_true_eq, List.mem_map]
  exact ⟨fun ⟨t, ht, e⟩ => toList_inj e ▸ ht, fun h => ⟨s, h, rfl⟩⟩
theorem hasB_hit {ss : List ByteArray} {s : ByteArray} (k : Nat) (h : ss[k]? = some s) : hasB ss s = true :=
  hasB_iff.2 (List.mem_of_getElem? h)
theorem hasB_miss {ss : List ByteArray} {s : ByteArray} (h : ∀ j, j < ss.length → ss[j]? ≠ some s) : hasB ss s = false := by
  cases e : hasB ss s with
  | false => rfl
  | true =>
    obtain ⟨j, hj⟩ := List.getElem?_of_mem (hasB_iff.1 e)
    exact absurd hj (h j (List.getElem?_eq_some_iff.1 hj).1)

/-- fun, pre, rule, return, nil. -/
def resList : List ByteArray := [⟨#[102, 117, 110]⟩, ⟨#[112, 114, 101]⟩, ⟨#[114, 117, 108, 101]⟩, ⟨#[114, 101, 116, 117, 114, 110]⟩, ⟨#[110, 105, 108]⟩]
def resv (s : ByteArray) : Bool := hasB resList s

def letter (c : UInt8) : Bool := decide (97 ≤ (c.toNat : Int)) && decide ((c.toNat : Int) ≤ 122)
def digit (c : UInt8) : Bool := decide (48 ≤ (c.toNat : Int)) && decide ((c.toNat : Int) ≤ 57)

/-- Starts with a letter, and holds letters and digits. -/
def shape : List UInt8 → Bool
  | [] => false
  | c :: l => letter c && l.all fun d => letter d || digit d

def validName (s : ByteArray) : Bool := shape s.data.toList && decide (s.size ≤ 8) && !resv s
def listName (s : ByteArray) : Bool := validName s && s.data.toList.getLast? == some 115

theorem shape_pos {s : ByteArray} (h : shape s.data.toList = true) : 0 < s.size := by
  rcases Nat.eq_zero_or_pos s.size with h0 | h0
  · have : s.data.toList = [] := by
      apply List.eq_nil_of_length_eq_zero
      simpa using h0
    rw [this] at h; simp [shape] at h
  · exact h0

/-- The byte at place k keeps the shape. -/
def fits (k : Nat) (c : UInt8) : Bool := letter c || (decide (k ≠ 0) && digit c)

theorem shape_iff (l : List UInt8) : shape l = true ↔ l ≠ [] ∧ ∀ k c, l[k]? = some c → fits k c = true := by
  cases l with
  | nil => simp [shape]
  | cons c l =>
    simp only [shape, Bool.and_eq_true, List.all_eq_true, ne_eq, reduceCtorEq, not_false_eq_true, true_and]
    constructor
    · rintro ⟨h1, h2⟩ k d hk
      cases k with
      | zero => simp at hk; subst hk; simp [fits, h1]
      | succ k =>
        have := h2 d (List.mem_of_getElem? (by simpa using hk))
        simpa [fits] using this
    · intro h
      refine ⟨by simpa [fits] using h 0 c (by simp), fun d hd => ?_⟩
      obtain ⟨k, hk⟩ := List.getElem?_of_mem hd
      simpa [fits] using h (k + 1) d (by simpa using hk)

theorem shape_no {l : List UInt8} (k : Nat) (c : UInt8) (h : l[k]? = some c) (hf : fits k c = false) : shape l = false := by
  cases hs : shape l with
  | false => rfl
  | true => rw [((shape_iff l).1 hs).2 k c h] at hf; cases hf
theorem shape_yes {l : List UInt8} (hn : l ≠ []) (h : ∀ k c, k < l.length → l[k]? = some c → fits k c = true) : shape l = true :=
  (shape_iff l).2 ⟨hn, fun k c hk => h k c (List.getElem?_eq_some_iff.1 hk).1 hk⟩

end NameM
end Go.Proofs.YtiilopfhlmeaoaaGreatDoor

/-
  Plain mathematics of splitting at a byte. Imports nothing of the program.
-/
namespace Go.Proofs.YtiilopfhlmeaoaaGreatDoor
namespace SplitM
open Go.Lib

/-- The parts of l between the occurrences of c. -/
def sp (c : UInt8) : List UInt8 → List (List UInt8)
  | [] => [[]]
  | b :: l => if b = c then [] :: sp c l else match sp c l with
    | [] => [[b]]
    | p :: ps => (b :: p) :: ps

theorem sp_none (c : UInt8) : ∀ l : List UInt8, c ∉ l → sp c l = [l]
  | [], _ => rfl
  | b :: l, h => by
    have hb : b ≠ c := fun e => h (by simp [e])
    have hl : c ∉ l := fun e => h (List.mem_cons_of_mem _ e)
    rw [sp, if_neg hb, sp_none c l hl]

theorem sp_hit (c : UInt8) : ∀ (a r : List UInt8), c ∉ a → sp c (a ++ c :: r) = a :: sp c r
  | [], r, _ => by simp [sp]
  | b :: a, r, h => by
    have hb : b ≠ c := fun e => h (by simp [e])
    have hl : c ∉ a := fun e => h (List.mem_cons_of_mem _ e)
    rw [List.cons_append, sp, if_neg hb, sp_hit c a r hl]

theorem indexByte_hit (c : UInt8) : ∀ (a r : List UInt8), c ∉ a → indexByte (a ++ c :: r) c = a.length
  | [], r, _ => by simp [indexByte]
  | b :: a, r, h => by
    have hb : (b == c) = false := by rw [beq_eq_false_iff_ne]; exact fun e => h (by simp [e])
    have hl : c ∉ a := fun e => h (List.mem_cons_of_mem _ e)
    rw [List.cons_append, indexByte, hb, indexByte_hit c a r hl]
    have : ((a.length : Int) == -1) = false := by rw [beq_eq_false_iff_ne]; omega
    simp [this]

theorem first_occ (c : UInt8) : ∀ l : List UInt8, c ∈ l → ∃ a r, l = a ++ c :: r ∧ c ∉ a
  | b :: l, h => by
    by_cases hb : b = c
    · exact ⟨[], l, by simp [hb], by simp⟩
    · have hl : c ∈ l := by
        rcases List.mem_cons.1 h with h | h
        · exact absurd h.symm hb
        · exact h
      obtain ⟨a, r, rfl, ha⟩ := first_occ c l hl
      exact ⟨b :: a, r, rfl, fun h => by
        rcases List.mem_cons.1 h with h | h
        · exact hb h.symm
        · exact ha h⟩

theorem pieces_inj : ∀ {xs ys : List ByteArray}, xs.map (·.data.toList) = ys.map (·.data.toList) → xs = ys
  | [], [], _ => rfl
  | x :: xs, y :: ys, h => by
    simp only [List.map_cons, List.cons.injEq] at h
    rw [WideShapes.bytes_inj h.1, pieces_inj h.2]
  | [], _ :: _, h => by simp at h
  | _ :: _, [], h => by simp at h

/-- The pieces as strings. -/
def spB (c : UInt8) (s : ByteArray) : List ByteArray := (sp c s.data.toList).map fun l => ⟨l.toArray⟩
theorem spB_data (c : UInt8) (s : ByteArray) : (spB c s).map (·.data.toList) = sp c s.data.toList := by
  simp [spB, Function.comp_def]
theorem sp_length_le (c : UInt8) : ∀ l : List UInt8, (sp c l).length ≤ l.length + 1
  | [] => Nat.le_refl _
  | b :: l => by
    have := sp_length_le c l
    rw [sp]
    split
    · simp; omega
    · split
      · simp
      · rename_i p ps h
        rw [h] at this
        simp at this ⊢; omega

theorem sp_ne (c : UInt8) : ∀ l : List UInt8, sp c l ≠ []
  | [] => by simp [sp]
  | b :: l => by
    rw [sp]
    split
    · simp
    · split <;> simp

theorem bytes_sp (c : UInt8) : ∀ l : List UInt8, ((sp c l).map List.length).sum ≤ l.length
  | [] => by simp [sp]
  | b :: l => by
    have ih := bytes_sp c l
    rw [sp]
    split
    · simp; omega
    · split
      · simp
      · rename_i q qs hq
        rw [hq] at ih
        simp at ih ⊢
        omega

theorem spB_size (c : UInt8) (s p : ByteArray) (h : p ∈ spB c s) : p.size ≤ s.size := by
  simp only [spB, List.mem_map] at h
  obtain ⟨l, hl, rfl⟩ := h
  have h1 := bytes_sp c s.data.toList
  have h2 : l.length ≤ ((sp c s.data.toList).map List.length).sum := by
    obtain ⟨a, b, hab⟩ := List.append_of_mem hl
    rw [hab]
    simp only [List.map_append, List.map_cons, List.sum_append, List.sum_cons]
    omega
  have e : (ByteArray.mk l.toArray).size = l.length := by show l.toArray.size = _; simp
  have e2 : s.data.toList.length = s.size := by simp
  omega
end SplitM
end Go.Proofs.YtiilopfhlmeaoaaGreatDoor

/-
  Plain mathematics of the text form of linear expressions: what is written ('fmt'), what is read ('parseL'). Imports nothing of the program.
-/
namespace Go.Proofs.YtiilopfhlmeaoaaGreatDoor
namespace TextM
open Go.Lib (itoa decDigits idxOfS)
open NameM (letter digit)

/-- A term: its number and its name; the constant has no name. -/
abbrev TItem := Int × ByteArray

def word (x : Int) (nm : ByteArray) : List UInt8 := if x.natAbs = 1 ∧ nm.size ≠ 0 then nm.data.toList else itoa x.natAbs ++ nm.data.toList
def sgn (neg first : Bool) : List UInt8 := if first then (if neg then [45] else []) else (if neg then [32, 45, 32] else [32, 43, 32])
def addT (t : List UInt8) (p : TItem) : List UInt8 := t ++ (sgn (decide (p.1 < 0)) t.isEmpty ++ word p.1 p.2)
def addU (t : List UInt8) (p : TItem) : List UInt8 := if p.1 = 0 then t else addT t p
def terms (ps : List TItem) : List UInt8 := ps.foldl addU []
def mk (ss : List ByteArray) (z : Int) (zs : List Int) : List TItem := zs.zip ss ++ [(z, ByteArray.empty)]
/-- The representation. -/
def fmt (ss : List ByteArray) (z : Int) (zs : List Int) : List UInt8 := if terms (mk ss z zs) = [] then [48] else terms (mk ss z zs)

def rest : List TItem → List UInt8
  | [] => []
  | p :: r => sgn (decide (p.1 < 0)) false ++ (word p.1 p.2 ++ rest r)
def render : List TItem → List UInt8
  | [] => []
  | p :: r => sgn (decide (p.1 < 0)) true ++ (word p.1 p.2 ++ rest r)

theorem itoa_nat (n : Nat) : itoa (n : Int) = decDigits n := by rw [NumM.itoa_nn (by omega), Int.toNat_natCast]
theorem size_list (s : ByteArray) : s.data.toList.length = s.size := by simp
theorem size_zero {s : ByteArray} (h : s.size = 0) : s.data.toList = [] := List.eq_nil_of_length_eq_zero (by rw [size_list, h])
theorem empty_list : ByteArray.empty.data.toList = [] := rfl
theorem mk_list (s : ByteArray) : (⟨s.data.toList.toArray⟩ : ByteArray) = s := by cases s; simp

theorem word_ne (x : Int) (nm : ByteArray) : word x nm ≠ [] := by
  unfold word
  split
  · rename_i h
    intro e
    have := congrArg List.length e
    rw [size_list] at this
    exact h.2 (by simpa using this)
  · rw [itoa_nat]
    intro e
    exact NumM.decDigits_ne _ (List.append_eq_nil_iff.1 e).1

theorem rest_snoc (p : TItem) : ∀ l : List TItem, rest (l ++ [p]) = rest l ++ (sgn (decide (p.1 < 0)) false ++ word p.1 p.2)
  | [] => by simp [rest]
  | q :: l => by simp only [List.cons_append, rest, rest_snoc p l, List.append_assoc]
theorem render_snoc (p : TItem) (l : List TItem) : addT (render l) p = render (l ++ [p]) := by
  cases l with
  | nil => simp [addT, render, rest]
  | cons q r =>
    have hne : (render (q :: r)).isEmpty = false := by
      rw [List.isEmpty_eq_false_iff]
      intro e
      have := (List.append_eq_nil_iff.1 (List.append_eq_nil_iff.1 e).2).1
      exact word_ne _ _ this
    unfold addT
    rw [hne, List.cons_append, render, render, rest_snoc]
    simp only [List.append_assoc]
theorem terms_gen : ∀ (ps l : List TItem), ps.foldl addU (render l) = render (l ++ ps.filter fun p => decide (p.1 ≠ 0))
  | [], l => by simp
  | p :: ps, l => by
    rw [List.foldl_cons]
    by_cases h : p.1 = 0
    · rw [addU, if_pos h, terms_gen ps l, List.filter_cons_of_neg (by simp [h])]
    · rw [addU, if_neg h, render_snoc, terms_gen ps, List.filter_cons_of_pos (by simp [h])]
      simp
theorem terms_eq (ps : List TItem) : terms ps = render (ps.filter fun p => decide (p.1 ≠ 0)) := by
  have := terms_gen ps []
  simpa [terms, render] using this
theorem render_nil {l : List TItem} (h : render l = []) : l = [] := by
  cases l with
  | nil => rfl
  | cons q r => exact absurd (List.append_eq_nil_iff.1 (List.append_eq_nil_iff.1 h).2).1 (word_ne _ _)

/-- The terms that are written. -/
def items (ss : List ByteArray) (z : Int) (zs : List Int) : List TItem :=
  if ((mk ss z zs).filter fun p => decide (p.1 ≠ 0)) = [] then [(0, ByteArray.empty)] else (mk ss z zs).filter fun p => decide (p.1 ≠ 0)
theorem items_ne (ss : List ByteArray) (z : Int) (zs : List Int) : items ss z zs ≠ [] := by
  unfold items; split
  · simp
  · assumption
theorem fmt_eq (ss : List ByteArray) (z : Int) (zs : List Int) : fmt ss z zs = render (items ss z zs) := by
  unfold fmt items
  rw [terms_eq]
  by_cases h : ((mk ss z zs).filter fun p => decide (p.1 ≠ 0)) = []
  · rw [h, if_pos rfl, if_pos (by rfl)]
    have h0 : decDigits 0 = [48] := by rw [Lib.decDigits]; rfl
    show [48] = sgn (decide ((0 : Int) < 0)) true ++ (word 0 ByteArray.empty ++ rest [])
    rw [word, if_neg (by decide), show ((0 : Int).natAbs : Int) = ((0 : Nat) : Int) from rfl, itoa_nat, h0]
    rfl
  · rw [if_neg h, if_neg (fun e => h (render_nil e))]
theorem fmt_ne (ss : List ByteArray) (z : Int) (zs : List Int) : fmt ss z zs ≠ [] := by
  rw [fmt_eq]
  intro e
  exact items_ne ss z zs (render_nil e)

/-- A term whose number is within the limit, with a name or none. -/
def Good (hi : Int) (t : TItem) : Prop := (-hi ≤ t.1 ∧ t.1 ≤ hi) ∧ (t.2.size = 0 ∨ NameM.shape t.2.data.toList = true)

theorem digits_digit (u : Nat) : ∀ b ∈ decDigits u, digit b = true := fun b hb => by
  obtain ⟨j, hj⟩ := List.getElem?_of_mem hb
  obtain ⟨d, hd⟩ := Lib.digit_of_decFrom _ _ _ (NumM.decFrom_decDigits u) j b hj
  have := Lib.digitVal_eq hd
  simp only [digit, Bool.and_eq_true, decide_eq_true_eq]
  omega
theorem shape_head {l : List UInt8} (h : NameM.shape l = true) : ∃ c r, l = c :: r ∧ letter c = true ∧ ∀ d ∈ r, (letter d || digit d) = true := by
  cases l with
  | nil => simp [NameM.shape] at h
  | cons c r =>
    simp only [NameM.shape, Bool.and_eq_true, List.all_eq_true] at h
    exact ⟨c, r, rfl, h.1, h.2⟩
theorem letter_not {c : UInt8} (h : letter c = true) : digit c = false := by
  simp only [letter, digit, Bool.and_eq_true, decide_eq_true_eq] at h ⊢
  rw [Bool.and_eq_false_iff]
  right
  simp; omega
theorem plain_of {c : UInt8} (h : (letter c || digit c) = true) : c ≠ 32 ∧ c ≠ 43 ∧ c ≠ 45 := by
  simp only [letter, digit, Bool.or_eq_true, Bool.and_eq_true, decide_eq_true_eq] at h
  refine ⟨?_, ?_, ?_⟩ <;> (rintro rfl; simp at h)
/-- No byte of a term is a blank or a sign. -/
theorem word_plain {hi : Int} {t : TItem} (h : Good hi t) : ∀ c ∈ word t.1 t.2, c ≠ 32 ∧ c ≠ 43 ∧ c ≠ 45 := fun c hc => by
  have hn : ∀ c ∈ t.2.data.toList, c ≠ 32 ∧ c ≠ 43 ∧ c ≠ 45 := fun c hc => by
    rcases h.2 with h0 | h0
    · rw [size_zero h0] at hc; cases hc
    · obtain ⟨a, r, e, h1, h2⟩ := shape_head h0
      rw [e] at hc
      rcases List.mem_cons.1 hc with rfl | hc
      · exact plain_of (by rw [h1]; rfl)
      · exact plain_of (h2 c hc)
  unfold word at hc
  split at hc
  · exact hn c hc
  · rw [itoa_nat] at hc
    rcases List.mem_append.1 hc with hc | hc
    · exact plain_of (by rw [digits_digit _ c hc]; simp)
    · exact hn c hc

/-- What is read off a term without its sign. -/
def readW (hi : Int) (l : List UInt8) : TItem := (if l.takeWhile digit = [] then 1 else (NumM.rd 0 hi (l.takeWhile digit)).getD 0, ⟨(l.dropWhile digit).toArray⟩)
theorem span_of {a b : List UInt8} (ha : ∀ c ∈ a, digit c = true) (hb : ∀ c, b.head? = some c → digit c = false) : (a ++ b).takeWhile digit = a ∧ (a ++ b).dropWhile digit = b := by
  induction a with
  | nil =>
    cases b with
    | nil => exact ⟨rfl, rfl⟩
    | cons c b => simp [hb c rfl]
  | cons x a ih =>
    have := ih (fun c hc => ha c (List.mem_cons_of_mem _ hc))
    simp [ha x List.mem_cons_self, this]
theorem name_head {hi : Int} {t : TItem} (h : Good hi t) : ∀ c, t.2.data.toList.head? = some c → digit c = false := fun c hc => by
  rcases h.2 with h0 | h0
  · rw [size_zero h0] at hc; cases hc
  · obtain ⟨a, r, e, h1, _⟩ := shape_head h0
    rw [e] at hc
    obtain rfl : a = c := by simpa using hc
    exact letter_not h1
/-- The term falls apart into its digits and its name. -/
theorem word_span {hi : Int} {t : TItem} (h : Good hi t) : (word t.1 t.2).takeWhile digit = (if t.1.natAbs = 1 ∧ t.2.size ≠ 0 then [] else itoa t.1.natAbs) ∧ (word t.1 t.2).dropWhile digit = t.2.data.toList := by
  unfold word
  split
  · exact span_of (a := []) (fun c hc => by cases hc) (name_head h)
  · exact span_of (fun c hc => digits_digit _ c (by rwa [itoa_nat] at hc)) (name_head h)
theorem rd_abs {hi : Int} {x : Int} (h : -hi ≤ x ∧ x ≤ hi) : NumM.rd 0 hi (itoa x.natAbs) = some (x.natAbs : Int) := NumM.rd_some.2 ⟨by omega, by omega, rfl⟩
theorem readW_word {hi : Int} {t : TItem} (h : Good hi t) : readW hi (word t.1 t.2) = ((t.1.natAbs : Int), t.2) := by
  obtain ⟨h1, h2⟩ := word_span h
  unfold readW
  rw [h1, h2, mk_list]
  by_cases hc : t.1.natAbs = 1 ∧ t.2.size ≠ 0
  · rw [if_pos hc, if_pos rfl, hc.1]; rfl
  · rw [if_neg hc, if_neg (by rw [itoa_nat]; exact NumM.decDigits_ne _), rd_abs h.1]; rfl
theorem word_head {hi : Int} {t : TItem} (h : Good hi t) : (word t.1 t.2).head? ≠ some 45 ∧ (word t.1 t.2).head? ≠ some 43 := by
  cases e : word t.1 t.2 with
  | nil => exact absurd e (word_ne _ _)
  | cons c r =>
    have := word_plain h c (by rw [e]; exact List.mem_cons_self)
    simp only [List.head?_cons, ne_eq, Option.some.injEq]
    exact ⟨this.2.2, this.2.1⟩

/-- The program's way: blanks struck, cut in front of each sign, each part read. -/
def isSig (c : UInt8) : Bool := c == 43 || c == 45
def cutGo : List UInt8 → List UInt8 → List (List UInt8)
  | cur, [] => [cur]
  | cur, c :: r => if isSig c = true ∧ cur ≠ [] then cur :: cutGo [c] r else cutGo (cur ++ [c]) r
def strip43 (l : List UInt8) : List UInt8 := if l.head? = some 43 then l.tail else l
def readT (hi : Int) (l : List UInt8) : TItem :=
  (if l.head? = some 45 then -(readW hi (strip43 (NumM.body l))).1 else (readW hi (strip43 (NumM.body l))).1, (readW hi (strip43 (NumM.body l))).2)
def scanI (hi : Int) (s : List UInt8) : List TItem := (cutGo [] (s.filter fun c => c != 32)).map (readT hi)

def sig (p : TItem) : UInt8 := if p.1 < 0 then 45 else 43
def comp : List TItem → List UInt8
  | [] => []
  | p :: r => sig p :: (word p.1 p.2 ++ comp r)
theorem filter_plain {l : List UInt8} (h : ∀ c ∈ l, c ≠ 32 ∧ c ≠ 43 ∧ c ≠ 45) : (l.filter fun c => c != 32) = l :=
  List.filter_eq_self.2 fun c hc => by simpa using (h c hc).1
theorem filter_rest {hi : Int} : ∀ l : List TItem, (∀ t ∈ l, Good hi t) → ((rest l).filter fun c => c != 32) = comp l
  | [], _ => rfl
  | p :: r, h => by
    have hp := h p List.mem_cons_self
    rw [rest, comp, List.filter_append, List.filter_append, filter_plain (word_plain hp), filter_rest r (fun t ht => h t (List.mem_cons_of_mem _ ht))]
    unfold sgn sig
    by_cases hn : p.1 < 0 <;> simp [hn]
theorem cutGo_plain : ∀ (w cur t : List UInt8), (∀ c ∈ w, c ≠ 32 ∧ c ≠ 43 ∧ c ≠ 45) → cutGo cur (w ++ t) = cutGo (cur ++ w) t
  | [], cur, t, _ => by simp
  | c :: w, cur, t, h => by
    have hc := h c List.mem_cons_self
    have hs : isSig c = false := by simp [isSig, hc.2.1, hc.2.2]
    rw [List.cons_append, cutGo, if_neg (by simp [hs]), cutGo_plain w (cur ++ [c]) t (fun d hd => h d (List.mem_cons_of_mem _ hd))]
    simp
theorem sig_is (p : TItem) : isSig (sig p) = true := by unfold sig; split <;> rfl
theorem cutGo_comp {hi : Int} : ∀ (l : List TItem) (cur : List UInt8), (∀ t ∈ l, Good hi t) → cur ≠ [] → cutGo cur (comp l) = cur :: l.map fun p => sig p :: word p.1 p.2
  | [], cur, _, _ => rfl
  | p :: r, cur, h, hc => by
    rw [comp, cutGo, if_pos ⟨sig_is p, hc⟩, cutGo_plain _ _ _ (word_plain (h p List.mem_cons_self)), cutGo_comp r _ (fun t ht => h t (List.mem_cons_of_mem _ ht)) (by simp)]
    rfl
theorem read_sig {hi : Int} {t : TItem} (h : Good hi t) : readT hi (sig t :: word t.1 t.2) = t := by
  obtain ⟨_, h43⟩ := word_head h
  unfold readT NumM.body strip43 sig
  by_cases hn : t.1 < 0
  · rw [if_pos hn]
    simp only [List.head?_cons, if_true, List.tail_cons]
    rw [if_neg h43, readW_word h]
    ext1
    · show -((t.1.natAbs : Nat) : Int) = t.1; omega
    · rfl
  · rw [if_neg hn]
    simp only [List.head?_cons, List.tail_cons, show ¬ (some (43 : UInt8) = some 45) by decide, if_false, if_true]
    rw [readW_word h]
    ext1
    · show ((t.1.natAbs : Nat) : Int) = t.1; omega
    · rfl
theorem read_first {hi : Int} {t : TItem} (h : Good hi t) : readT hi (sgn (decide (t.1 < 0)) true ++ word t.1 t.2) = t := by
  by_cases hn : t.1 < 0
  · have := read_sig h
    simpa [sgn, sig, hn] using this
  · obtain ⟨h45, h43⟩ := word_head h
    have e : sgn (decide (t.1 < 0)) true = [] := by simp [sgn, hn]
    rw [e, List.nil_append]
    unfold readT NumM.body strip43
    rw [if_neg h45, if_neg h45, if_neg h43, readW_word h]
    ext1
    · show ((t.1.natAbs : Nat) : Int) = t.1; omega
    · rfl
/-- What was written is read. -/
theorem scanI_render {hi : Int} {l : List TItem} (hl : l ≠ []) (h : ∀ t ∈ l, Good hi t) : scanI hi (render l) = l := by
  cases l with
  | nil => exact absurd rfl hl
  | cons p r =>
    have hp := h p List.mem_cons_self
    have hr : ∀ t ∈ r, Good hi t := fun t ht => h t (List.mem_cons_of_mem _ ht)
    have hf : ((render (p :: r)).filter fun c => c != 32) = sgn (decide (p.1 < 0)) true ++ (word p.1 p.2 ++ comp r) := by
      rw [render, List.filter_append, List.filter_append, filter_plain (word_plain hp), filter_rest r hr]
      congr 1
      unfold sgn
      by_cases hn : p.1 < 0 <;> simp [hn]
    have hcut : cutGo [] (sgn (decide (p.1 < 0)) true ++ (word p.1 p.2 ++ comp r)) = (sgn (decide (p.1 < 0)) true ++ word p.1 p.2) :: r.map fun p => sig p :: word p.1 p.2 := by
      by_cases hn : p.1 < 0
      · have e : sgn (decide (p.1 < 0)) true = [45] := by simp [sgn, hn]
        rw [e, List.cons_append, List.nil_append, cutGo, if_neg (by simp), cutGo_plain _ _ _ (word_plain hp), cutGo_comp r _ hr (by simp)]
        simp
      · have e : sgn (decide (p.1 < 0)) true = [] := by simp [sgn, hn]
        rw [e, List.nil_append, List.nil_append, cutGo_plain _ _ _ (word_plain hp), cutGo_comp r _ hr (by simpa using word_ne _ _)]
        simp
    unfold scanI
    rw [hf, hcut, List.map_cons, read_first hp, List.map_map]
    congr 1
    exact (List.map_congr_left (fun t ht => read_sig (hr t ht))).trans (List.map_id _)

/-- The model's way: cut at the blanks; each second part is a term, the part ahead of it its sign. -/
def readS (hi : Int) (l : List UInt8) : TItem :=
  if l.takeWhile digit = [] then (1, ⟨l.toArray⟩) else match NumM.rd 0 hi (l.takeWhile digit) with
    | some n => (n, ⟨(l.dropWhile digit).toArray⟩)
    | none => (0, ⟨#[63]⟩)
def negI (b : Bool) (t : TItem) : TItem := (if b then -t.1 else t.1, t.2)
def termS (hi : Int) (ws : List (List UInt8)) (j : Nat) : TItem :=
  if j = 0 then negI (decide ((ws.getD 0 []).head? = some 45)) (readS hi (NumM.body (ws.getD 0 [])))
  else negI (decide (ws.getD (2 * j - 1) [] = [45])) (readS hi (ws.getD (2 * j) []))
def scanS (hi : Int) (s : List UInt8) : List TItem := (List.range ((SplitM.sp 32 s).length / 2 + (SplitM.sp 32 s).length % 2)).map (termS hi (SplitM.sp 32 s))

theorem readS_word {hi : Int} {t : TItem} (h : Good hi t) : readS hi (word t.1 t.2) = ((t.1.natAbs : Int), t.2) := by
  obtain ⟨h1, h2⟩ := word_span h
  unfold readS
  rw [h1, h2, mk_list]
  by_cases hc : t.1.natAbs = 1 ∧ t.2.size ≠ 0
  · have hw : word t.1 t.2 = t.2.data.toList := by rw [word, if_pos hc]
    rw [if_pos hc, if_pos rfl, hc.1, hw, mk_list]; rfl
  · rw [if_neg hc, if_neg (by rw [itoa_nat]; exact NumM.decDigits_ne _), rd_abs h.1]
def pairs : List TItem → List (List UInt8)
  | [] => []
  | p :: r => [sig p] :: word p.1 p.2 :: pairs r
theorem pairs_len : ∀ l : List TItem, (pairs l).length = 2 * l.length
  | [] => rfl
  | p :: r => by simp [pairs, pairs_len r]; omega
theorem pairs_get : ∀ (l : List TItem) (j : Nat) (h : j < l.length), (pairs l).getD (2 * j) [] = [sig l[j]] ∧ (pairs l).getD (2 * j + 1) [] = word l[j].1 l[j].2
  | p :: r, 0, _ => by simp [pairs]
  | p :: r, j + 1, h => by
    have := pairs_get r j (by simpa using h)
    rw [show 2 * (j + 1) = 2 * j + 1 + 1 by omega]
    simpa [pairs] using this
theorem sp_rest {hi : Int} : ∀ (l : List TItem) (w : List UInt8), (∀ t ∈ l, Good hi t) → 32 ∉ w → SplitM.sp 32 (w ++ rest l) = w :: pairs l
  | [], w, _, hw => by rw [rest, List.append_nil, SplitM.sp_none 32 w hw]; rfl
  | p :: r, w, h, hw => by
    have hp := h p List.mem_cons_self
    have hwd : 32 ∉ word p.1 p.2 := fun hm => (word_plain hp 32 hm).1 rfl
    have e : rest (p :: r) = 32 :: ([sig p] ++ 32 :: (word p.1 p.2 ++ rest r)) := by
      rw [show rest (p :: r) = sgn (decide (p.1 < 0)) false ++ (word p.1 p.2 ++ rest r) from rfl]
      unfold sgn sig
      by_cases hn : p.1 < 0 <;> simp [hn]
    have hs : 32 ∉ [sig p] := by unfold sig; split <;> decide
    rw [e, SplitM.sp_hit 32 w _ hw, SplitM.sp_hit 32 [sig p] _ hs, sp_rest r _ (fun t ht => h t (List.mem_cons_of_mem _ ht)) hwd]
    rfl
theorem neg_abs (t : TItem) : negI (decide (t.1 < 0)) ((t.1.natAbs : Int), t.2) = t := by
  unfold negI
  ext1
  · simp only [decide_eq_true_eq]
    split <;> omega
  · rfl
theorem scanS_render {hi : Int} {l : List TItem} (hl : l ≠ []) (h : ∀ t ∈ l, Good hi t) : scanS hi (render l) = l := by
  cases l with
  | nil => exact absurd rfl hl
  | cons p r =>
    have hp := h p List.mem_cons_self
    have hr : ∀ t ∈ r, Good hi t := fun t ht => h t (List.mem_cons_of_mem _ ht)
    have hw0 : 32 ∉ sgn (decide (p.1 < 0)) true ++ word p.1 p.2 := by
      intro hm
      rcases List.mem_append.1 hm with hm | hm
      · unfold sgn at hm
        by_cases hn : p.1 < 0 <;> simp [hn] at hm
      · exact (word_plain hp 32 hm).1 rfl
    have hsp : SplitM.sp 32 (render (p :: r)) = (sgn (decide (p.1 < 0)) true ++ word p.1 p.2) :: pairs r := by
      rw [render, ← List.append_assoc, sp_rest r _ hr hw0]
    unfold scanS
    rw [hsp]
    refine List.ext_getElem ?_ (fun j h1 h2 => ?_)
    · simp [pairs_len]; omega
    · rw [List.getElem_map, List.getElem_range]
      cases j with
      | zero =>
        obtain ⟨h45, _⟩ := word_head hp
        unfold termS NumM.body
        simp only [if_true, List.getD_cons_zero, List.getElem_cons_zero]
        by_cases hn : p.1 < 0
        · have e : sgn (decide (p.1 < 0)) true = [45] := by simp [sgn, hn]
          rw [e]
          simp only [List.cons_append, List.nil_append, List.head?_cons, if_true, List.tail_cons, decide_true]
          rw [readS_word hp]
          have := neg_abs p
          simpa [hn] using this
        · have e : sgn (decide (p.1 < 0)) true = [] := by simp [sgn, hn]
          rw [e, List.nil_append, if_neg h45, readS_word hp]
          have := neg_abs p
          simpa [hn, h45] using this
      | succ j =>
        have hj : j < r.length := by simpa using h2
        obtain ⟨g1, g2⟩ := pairs_get r j hj
        have ht := hr r[j] (List.getElem_mem hj)
        have e1 : (2 * (j + 1) - 1) = 2 * j + 1 := by omega
        unfold termS
        rw [if_neg (by omega), e1, show 2 * (j + 1) = 2 * j + 1 + 1 by omega, List.getD_cons_succ, List.getD_cons_succ, g1, g2, readS_word ht, List.getElem_cons_succ]
        have hs : decide ([sig r[j]] = [(45 : UInt8)]) = decide (r[j].1 < 0) := by
          unfold sig
          by_cases hn : r[j].1 < 0 <;> simp [hn]
        rw [hs]
        exact neg_abs _

theorem rd_small {lo hi : Int} {l : List UInt8} {n : Int} (h : NumM.rd lo hi l = some n) : lo ≤ n ∧ n ≤ hi := ⟨(NumM.rd_some.1 h).1, (NumM.rd_some.1 h).2.1⟩
theorem readW_small {hi : Int} (h1 : 1 ≤ hi) (l : List UInt8) : 0 ≤ (readW hi l).1 ∧ (readW hi l).1 ≤ hi := by
  unfold readW
  simp only
  split
  · omega
  · cases e : NumM.rd 0 hi (l.takeWhile digit) with
    | none => simp; omega
    | some n => exact rd_small e
theorem readT_small {hi : Int} (h1 : 1 ≤ hi) (l : List UInt8) : -hi ≤ (readT hi l).1 ∧ (readT hi l).1 ≤ hi := by
  have := readW_small h1 (strip43 (NumM.body l))
  unfold readT
  simp only
  split <;> omega
theorem readS_small {hi : Int} (h1 : 1 ≤ hi) (l : List UInt8) : 0 ≤ (readS hi l).1 ∧ (readS hi l).1 ≤ hi := by
  unfold readS
  split
  · simp; omega
  · split
    · rename_i e; exact rd_small e
    · simp; omega
theorem termS_small {hi : Int} (h1 : 1 ≤ hi) (ws : List (List UInt8)) (j : Nat) : -hi ≤ (termS hi ws j).1 ∧ (termS hi ws j).1 ≤ hi := by
  have a := readS_small h1 (NumM.body (ws.getD 0 []))
  have b := readS_small h1 (ws.getD (2 * j) [])
  unfold termS negI
  split <;> (simp only; split <;> omega)

/-- The terms are a reading of the text: small, and right where the text is a representation. -/
def Scans (s : List UInt8) (ts : List TItem) : Prop :=
  (∀ t ∈ ts, -999999 ≤ t.1 ∧ t.1 ≤ 999999) ∧ ∀ its : List TItem, its ≠ [] → (∀ t ∈ its, Good 999999 t) → render its = s → ts = its
theorem scansI (s : List UInt8) : Scans s (scanI 999999 s) :=
  ⟨fun t ht => by
    obtain ⟨l, _, rfl⟩ := List.mem_map.1 ht
    exact readT_small (by omega) l, fun its h1 h2 h3 => by rw [← h3]; exact scanI_render h1 h2⟩
theorem scansS (s : List UInt8) : Scans s (scanS 999999 s) :=
  ⟨fun t ht => by
    obtain ⟨l, _, rfl⟩ := List.mem_map.1 ht
    exact termS_small (by omega) _ l, fun its h1 h2 h3 => by rw [← h3]; exact scanS_render h1 h2⟩

/-- One term laid into the expression. -/
def step (ss : List ByteArray) (l : Int × List Int) (t : TItem) : Int × List Int :=
  if t.2.size = 0 then (t.1, l.2) else if 0 ≤ idxOfS ss t.2 ∧ idxOfS ss t.2 < l.2.length then (l.1, l.2.set (idxOfS ss t.2).toNat t.1) else l
def R (ss : List ByteArray) (ts : List TItem) : Int × List Int := ts.foldl (step ss) (0, List.replicate (min ss.length 8) 0)

def Small (hi : Int) (l : Int × List Int) : Prop := (-hi ≤ l.1 ∧ l.1 ≤ hi) ∧ ∀ x ∈ l.2, -hi ≤ x ∧ x ≤ hi
/-- The names can be those of the variables of an expression. -/
def Names (ss : List ByteArray) : Prop := ss.length ≤ 8 ∧ (∀ (i j : Nat) s, ss[i]? = some s → ss[j]? = some s → i = j) ∧ ∀ s ∈ ss, NameM.shape s.data.toList = true

theorem zip_mem {zs : List Int} {ss : List ByteArray} {p : TItem} (h : p ∈ zs.zip ss) : p.1 ∈ zs ∧ p.2 ∈ ss := ⟨(List.of_mem_zip h).1, (List.of_mem_zip h).2⟩
theorem items_good {hi : Int} (h0 : 0 ≤ hi) {ss : List ByteArray} (hs : Names ss) {z : Int} {zs : List Int} (h : Small hi (z, zs)) : ∀ t ∈ items ss z zs, Good hi t := fun t ht => by
  have hm : ∀ t ∈ mk ss z zs, Good hi t := fun t ht => by
    unfold mk at ht
    rcases List.mem_append.1 ht with ht | ht
    · have := zip_mem ht
      exact ⟨h.2 _ this.1, Or.inr (hs.2.2 _ this.2)⟩
    · rw [List.mem_singleton.1 ht]
      exact ⟨h.1, Or.inl rfl⟩
  unfold items at ht
  split at ht
  · rw [List.mem_singleton.1 ht]
    exact ⟨⟨by simp; omega, by simpa using h0⟩, Or.inl rfl⟩
  · exact hm t (List.mem_filter.1 ht).1

end TextM
end Go.Proofs.YtiilopfhlmeaoaaGreatDoor

/-
  Sorted texts, each once ('srt'): insertion one by one; what sorting and striking repetitions gives is the same.
-/
namespace Go.Proofs.YtiilopfhlmeaoaaGreatDoor
namespace SortM
abbrev Bytes := List UInt8

theorem lt_irrefl (a : Bytes) : ¬ a < a := List.lt_irrefl a
theorem lt_trans {a b c : Bytes} (h : a < b) (k : b < c) : a < c := List.lt_trans h k
theorem lt_asymm {a b : Bytes} (h : a < b) : ¬ b < a := List.lt_asymm h
theorem lt_of_le_ne {a b : Bytes} (h : a ≤ b) (k : a ≠ b) : a < b := by
  rcases Classical.em (a < b) with h1 | h1
  · exact h1
  · exact absurd (List.le_antisymm h (List.not_lt.1 h1)) k
theorem tri {a b : Bytes} (h : ¬ a < b) (k : a ≠ b) : b < a := lt_of_le_ne (List.not_lt.1 h) (fun e => k e.symm)
theorem lt_of_le_lt {a b c : Bytes} (h : a ≤ b) (k : b < c) : a < c := by
  rcases Classical.em (a = b) with e | e
  · exact e ▸ k
  · exact lt_trans (lt_of_le_ne h e) k

/-- Ascending, strictly. -/
abbrev Asc (l : List Bytes) : Prop := l.Pairwise fun a b => a < b

/-- Two ascending lists with the same elements are one. -/
theorem asc_unique : ∀ {l m : List Bytes}, Asc l → Asc m → (∀ x, x ∈ l ↔ x ∈ m) → l = m
  | [], [], _, _, _ => rfl
  | [], y :: m, _, _, h => absurd ((h y).2 (List.mem_cons_self ..)) (by simp)
  | x :: l, [], _, _, h => absurd ((h x).1 (List.mem_cons_self ..)) (by simp)
  | x :: l, y :: m, hl, hm, h => by
    obtain ⟨hx, hl'⟩ := List.pairwise_cons.1 hl
    obtain ⟨hy, hm'⟩ := List.pairwise_cons.1 hm
    have e : x = y := by
      rcases List.mem_cons.1 ((h x).1 (List.mem_cons_self ..)) with e | h1
      · exact e
      · rcases List.mem_cons.1 ((h y).2 (List.mem_cons_self ..)) with e | h2
        · exact e.symm
        · exact absurd (hy x h1) (lt_asymm (hx y h2))
    subst e
    rw [asc_unique hl' hm' (fun z => ?_)]
    constructor
    · intro hz
      rcases List.mem_cons.1 ((h z).1 (List.mem_cons_of_mem _ hz)) with e | h1
      · exact absurd (hx z hz) (by rw [e]; exact lt_irrefl _)
      · exact h1
    · intro hz
      rcases List.mem_cons.1 ((h z).2 (List.mem_cons_of_mem _ hz)) with e | h1
      · exact absurd (hy z hz) (by rw [e]; exact lt_irrefl _)
      · exact h1

/-- How many elements at the head are below x. -/
def pos (x : Bytes) (l : List Bytes) : Nat := (l.takeWhile fun y => decide (y < x)).length
theorem pos_le (x : Bytes) (l : List Bytes) : pos x l ≤ l.length := by
  unfold pos
  have h := List.takeWhile_append_dropWhile (p := fun y => decide (y < x)) (l := l)
  have h2 := congrArg List.length h
  simp only [List.length_append] at h2
  omega
theorem pos_below {x : Bytes} : ∀ {l : List Bytes} {j : Nat} {y : Bytes}, j < pos x l → l[j]? = some y → y < x
  | [], j, y, h, _ => by simp [pos] at h
  | z :: l, j, y, h, e => by
    unfold pos at h
    by_cases hz : z < x
    · rw [List.takeWhile_cons_of_pos (by simpa using hz)] at h
      cases j with
      | zero => simp at e; exact e ▸ hz
      | succ j => exact pos_below (l := l) (j := j) (by simpa [pos] using h) (by simpa using e)
    · rw [List.takeWhile_cons_of_neg (by simpa using hz)] at h
      simp at h
theorem pos_at {x : Bytes} : ∀ {l : List Bytes} {y : Bytes}, l[pos x l]? = some y → ¬ y < x
  | [], y, e => by simp at e
  | z :: l, y, e => by
    unfold pos at e
    by_cases hz : z < x
    · rw [List.takeWhile_cons_of_pos (by simpa using hz)] at e
      exact pos_at (l := l) (by simpa [pos] using e)
    · rw [List.takeWhile_cons_of_neg (by simpa using hz)] at e
      simp at e
      exact e ▸ hz
theorem pos_eq {x : Bytes} {l : List Bytes} {k : Nat} (h1 : k ≤ l.length) (h2 : ∀ j y, j < k → l[j]? = some y → y < x) (h3 : ∀ y, l[k]? = some y → ¬ y < x) : pos x l = k := by
  rcases Nat.lt_trichotomy (pos x l) k with h | h | h
  · have hl : pos x l < l.length := by omega
    exact absurd (h2 _ _ h (List.getElem?_eq_getElem hl)) (pos_at (List.getElem?_eq_getElem hl))
  · exact h
  · have hl : k < l.length := by have := pos_le x l; omega
    exact absurd (pos_below h (List.getElem?_eq_getElem hl)) (h3 _ (List.getElem?_eq_getElem hl))

/-- x put into its place, if it isn't there. -/
def ins (x : Bytes) (l : List Bytes) : List Bytes :=
  if l[pos x l]? = some x then l else l.take (pos x l) ++ [x] ++ l.drop (pos x l)

theorem mem_ins {x y : Bytes} {l : List Bytes} : y ∈ ins x l ↔ y = x ∨ y ∈ l := by
  unfold ins
  split
  · rename_i h
    exact ⟨Or.inr, fun h1 => h1.elim (fun e => e ▸ List.mem_of_getElem? h) id⟩
  · have h := List.take_append_drop (pos x l) l
    constructor
    · intro h1
      simp only [List.mem_append, List.mem_singleton] at h1
      rcases h1 with (h1 | h1) | h1
      · exact Or.inr (List.mem_of_mem_take h1)
      · exact Or.inl h1
      · exact Or.inr (List.mem_of_mem_drop h1)
    · rintro (h1 | h1)
      · simp [h1]
      · rw [← h] at h1
        simp only [List.mem_append, List.mem_singleton] at h1 ⊢
        rcases h1 with h1 | h1
        · exact Or.inl (Or.inl h1)
        · exact Or.inr h1

theorem asc_get {l : List Bytes} (h : Asc l) {i j : Nat} {a b : Bytes} (hij : i < j) (ha : l[i]? = some a) (hb : l[j]? = some b) : a < b := by
  obtain ⟨hi, rfl⟩ := List.getElem?_eq_some_iff.1 ha
  obtain ⟨hj, rfl⟩ := List.getElem?_eq_some_iff.1 hb
  exact List.pairwise_iff_getElem.1 h i j hi hj hij

theorem asc_ins {x : Bytes} {l : List Bytes} (h : Asc l) : Asc (ins x l) := by
  unfold ins
  split
  · exact h
  · rename_i hne
    have hlow : ∀ y ∈ l.take (pos x l), y < x := fun y hy => by
      obtain ⟨j, hj⟩ := List.getElem?_of_mem hy
      rw [List.getElem?_take] at hj
      split at hj
      · exact pos_below ‹_› hj
      · cases hj
    have hhigh : ∀ y ∈ l.drop (pos x l), x < y := fun y hy => by
      obtain ⟨j, hj⟩ := List.getElem?_of_mem hy
      rw [List.getElem?_drop] at hj
      have hp : pos x l < l.length := by
        have := (List.getElem?_eq_some_iff.1 hj).1
        omega
      have h0 := List.getElem?_eq_getElem hp
      have hlt : x < l[pos x l] := tri (pos_at h0) (fun e => hne (by rw [h0, e]))
      cases j with
      | zero =>
        rw [Nat.add_zero, h0] at hj
        exact Option.some.inj hj ▸ hlt
      | succ j => exact lt_trans hlt (asc_get h (by omega) h0 hj)
    refine List.pairwise_append.2 ⟨List.pairwise_append.2 ⟨h.sublist (List.take_sublist _ _), List.pairwise_singleton _ _, fun a ha b hb => ?_⟩, h.sublist (List.drop_sublist _ _), fun a ha b hb => ?_⟩
    · rw [List.mem_singleton.1 hb]; exact hlow a ha
    · rcases List.mem_append.1 ha with ha | ha
      · exact lt_trans (hlow a ha) (hhigh b hb)
      · rw [List.mem_singleton.1 ha]; exact hhigh b hb

/-- Sorted, each once. -/
def srt (l : List Bytes) : List Bytes := l.foldl (fun o x => ins x o) []
theorem srt_snoc (l : List Bytes) (x : Bytes) : srt (l ++ [x]) = ins x (srt l) := by simp [srt, List.foldl_append]
theorem srt_gen : ∀ (l o : List Bytes), Asc o → Asc (l.foldl (fun o x => ins x o) o) ∧ ∀ y, y ∈ l.foldl (fun o x => ins x o) o ↔ y ∈ l ∨ y ∈ o
  | [], o, h => ⟨h, fun y => by simp⟩
  | x :: l, o, h => by
    obtain ⟨h1, h2⟩ := srt_gen l (ins x o) (asc_ins h)
    refine ⟨h1, fun y => ?_⟩
    rw [List.foldl_cons, h2 y, mem_ins, List.mem_cons]
    constructor
    · rintro (h | h | h)
      · exact Or.inl (Or.inr h)
      · exact Or.inl (Or.inl h)
      · exact Or.inr h
    · rintro ((h | h) | h)
      · exact Or.inr (Or.inl h)
      · exact Or.inl h
      · exact Or.inr (Or.inr h)
theorem srt_asc (l : List Bytes) : Asc (srt l) := (srt_gen l [] List.Pairwise.nil).1
theorem mem_srt {l : List Bytes} {y : Bytes} : y ∈ srt l ↔ y ∈ l := by
  have := (srt_gen l [] List.Pairwise.nil).2 y
  simpa [srt] using this
theorem ins_length (x : Bytes) (l : List Bytes) : (ins x l).length ≤ l.length + 1 := by
  unfold ins
  split
  · omega
  · have := pos_le x l
    simp only [List.length_append, List.length_take, List.length_drop, List.length_cons, List.length_nil]
    omega
theorem srt_length (l : List Bytes) : (srt l).length ≤ l.length := by
  have gen : ∀ (l o : List Bytes), (l.foldl (fun o x => ins x o) o).length ≤ l.length + o.length := by
    intro l
    induction l with
    | nil => intro o; simp
    | cons x l ih =>
      intro o
      have h1 := ih (ins x o)
      have h2 := ins_length x o
      simp only [List.foldl_cons, List.length_cons]
      omega
  simpa [srt] using gen l []

/-- Striking the repetitions of a list that does not descend. -/
theorem compact_gen (d : Array Bytes) (hs : ∀ i j, i < j → j < d.size → d[i]! ≤ d[j]!) : ∀ m, m ≤ d.size → Asc (Lib.compactUpTo d m) ∧ ∀ y, y ∈ Lib.compactUpTo d m ↔ ∃ j, j < m ∧ d[j]! = y
  | 0, _ => ⟨by simp [Lib.compactUpTo], fun y => by simp [Lib.compactUpTo]⟩
  | m + 1, hm => by
    obtain ⟨h1, h2⟩ := compact_gen d hs m (by omega)
    rw [Lib.compactUpTo_succ]
    by_cases hk : Lib.keeps d m = true
    · rw [if_pos hk]
      refine ⟨List.pairwise_append.2 ⟨h1, List.pairwise_singleton _ _, fun a ha b hb => ?_⟩, fun y => ?_⟩
      · obtain ⟨j, hj, rfl⟩ := (h2 a).1 ha
        rw [List.mem_singleton.1 hb]
        simp only [Lib.keeps, decide_eq_true_eq] at hk
        rcases hk with hk | hk
        · omega
        · have hl : d[m - 1]! < d[m]! := lt_of_le_ne (hs _ _ (by omega) (by omega)) (fun e => hk e.symm)
          by_cases e : j = m - 1
          · rw [e]; exact hl
          · exact lt_of_le_lt (hs j (m - 1) (by omega) (by omega)) hl
      · rw [List.mem_append, h2 y, List.mem_singleton]
        constructor
        · rintro (⟨j, hj, e⟩ | e)
          · exact ⟨j, by omega, e⟩
          · exact ⟨m, by omega, e.symm⟩
        · rintro ⟨j, hj, e⟩
          by_cases hjm : j = m
          · exact Or.inr (hjm ▸ e.symm)
          · exact Or.inl ⟨j, by omega, e⟩
    · rw [if_neg hk, List.append_nil]
      refine ⟨h1, fun y => ?_⟩
      rw [h2 y]
      simp only [Lib.keeps, decide_eq_true_eq, not_or, ne_eq, Classical.not_not] at hk
      constructor
      · rintro ⟨j, hj, e⟩; exact ⟨j, by omega, e⟩
      · rintro ⟨j, hj, e⟩
        by_cases hjm : j = m
        · exact ⟨m - 1, by omega, by rw [← hk.2, ← hjm]; exact e⟩
        · exact ⟨j, by omega, e⟩

theorem compact_sort (l : List Bytes) : Lib.compact (l.mergeSort fun x y => decide (x ≤ y)) = srt l := by
  have hp : (l.mergeSort fun x y => decide (x ≤ y)).Pairwise fun a b => (decide (a ≤ b)) = true :=
    List.pairwise_mergeSort (fun a b c h k => by simp only [decide_eq_true_eq] at *; exact List.le_trans h k) (fun a b => by simpa using List.le_total a b) l
  have hm := List.mergeSort_perm l fun x y => decide (x ≤ y)
  generalize (l.mergeSort fun x y => decide (x ≤ y)) = s at hp hm
  have hs : ∀ i j, i < j → j < s.toArray.size → s.toArray[i]! ≤ s.toArray[j]! := fun i j hij hj => by
    have hj' : j < s.length := by simpa using hj
    have := List.pairwise_iff_getElem.1 hp i j (by omega) hj' hij
    simpa [getElem!_pos, hj', show i < s.length by omega] using this
  obtain ⟨h1, h2⟩ := compact_gen s.toArray hs s.length (by simp)
  refine asc_unique h1 (srt_asc l) (fun x => ?_)
  show x ∈ Lib.compactUpTo s.toArray s.length ↔ _
  rw [h2 x, mem_srt, ← hm.mem_iff]
  constructor
  · rintro ⟨j, hj, rfl⟩
    rw [getElem!_pos _ _ (by simpa using hj)]
    simp
  · intro hx
    obtain ⟨j, hj⟩ := List.getElem?_of_mem hx
    have hjl := (List.getElem?_eq_some_iff.1 hj).1
    exact ⟨j, hjl, by rw [getElem!_pos _ _ (by simpa using hjl)]; simpa using (List.getElem?_eq_some_iff.1 hj).2⟩

/-- The same on texts. -/
def srtB (ss : List ByteArray) : List ByteArray := (srt (ss.map fun s => s.data.toList)).map fun l => ⟨l.toArray⟩
theorem srtB_length (ss : List ByteArray) : (srtB ss).length ≤ ss.length := by
  have := srt_length (ss.map fun s => s.data.toList)
  simpa [srtB] using this
theorem srtB_data (ss : List ByteArray) : (srtB ss).map (fun s => s.data.toList) = srt (ss.map fun s => s.data.toList) := by
  simp [srtB, List.map_map, Function.comp_def]

theorem ins_there {x : Bytes} {l : List Bytes} (h : Asc l) (hx : x ∈ l) : ins x l = l := by
  obtain ⟨j, hj⟩ := List.getElem?_of_mem hx
  have hjl := (List.getElem?_eq_some_iff.1 hj).1
  have e : pos x l = j := pos_eq (by omega) (fun i y hi hy => asc_get h hi hy hj) (fun y hy => by rw [hj] at hy; rw [Option.some.inj hy]; exact lt_irrefl _)
  unfold ins
  rw [if_pos (by rw [e]; exact hj)]
theorem ins_new {x : Bytes} {l : List Bytes} (hx : x ∉ l) : (ins x l).length = l.length + 1 := by
  unfold ins
  have := pos_le x l
  rw [if_neg (fun h => hx (List.mem_of_getElem? h))]
  simp only [List.length_append, List.length_take, List.length_drop, List.length_cons, List.length_nil]
  omega

/-- No element is among those before it: what sorting leaves is as long. -/
theorem take_step (l : List Bytes) (k : Nat) (x : Bytes) (hk : l[k]? = some x) : srt (l.take (k + 1)) = ins x (srt (l.take k)) := by
  rw [List.take_add_one, hk]
  exact srt_snoc _ _
theorem dist_step {l : List Bytes} {k : Nat} {x : Bytes} (hk : l[k]? = some x) (h : (srt (l.take k)).length = k) (hx : x ∉ l.take k) : (srt (l.take (k + 1))).length = k + 1 := by
  rw [take_step l k x hk, ins_new (fun h => hx (mem_srt.1 h)), h]
theorem srt_take_le (l : List Bytes) (k : Nat) : (srt l).length ≤ (srt (l.take k)).length + (l.length - k) := by
  have gen : ∀ (r o : List Bytes), (r.foldl (fun o x => ins x o) o).length ≤ o.length + r.length := by
    intro r
    induction r with
    | nil => intro o; simp
    | cons x r ih =>
      intro o
      have h1 := ih (ins x o)
      have h2 := ins_length x o
      simp only [List.foldl_cons, List.length_cons]
      omega
  have e : srt l = (l.drop k).foldl (fun o x => ins x o) (srt (l.take k)) := by
    unfold srt
    rw [← List.foldl_append, List.take_append_drop]
  rw [e]
  have := gen (l.drop k) (srt (l.take k))
  rw [List.length_drop] at this
  exact this
theorem dist_no {l : List Bytes} {k : Nat} {x : Bytes} (hk : l[k]? = some x) (hx : x ∈ l.take k) : (srt l).length < l.length := by
  have hkl := (List.getElem?_eq_some_iff.1 hk).1
  have h1 := srt_take_le l (k + 1)
  rw [take_step l k x hk, ins_there (srt_asc _) (mem_srt.2 hx)] at h1
  have h2 := srt_length (l.take k)
  rw [List.length_take] at h2
  omega
end SortM
end Go.Proofs.YtiilopfhlmeaoaaGreatDoor

/-
  Plain mathematics of splitting at " : ". Imports nothing of the program.
-/
namespace Go.Proofs.YtiilopfhlmeaoaaGreatDoor
namespace ArgSp
open Go.Lib

/-- " : " -/
abbrev sep : List UInt8 := [32, 58, 32]
theorem occ_iff {s : List UInt8} {i : Nat} : occAt s sep i = true ↔ ∃ r, s.drop i = sep ++ r := by
  unfold occAt
  rw [List.isPrefixOf_iff_prefix]
  exact ⟨fun ⟨r, h⟩ => ⟨r, h.symm⟩, fun ⟨r, h⟩ => ⟨r, h.symm⟩⟩
theorem occ_colon {s : List UInt8} {i : Nat} (h : occAt s sep i = true) : s[i + 1]? = some 58 := by
  obtain ⟨r, h⟩ := occ_iff.1 h
  have := congrArg (fun l => l[1]?) h
  simpa using this
theorem index_hit {a : List UInt8} (r : List UInt8) (h : 58 ∉ a) : index (a ++ (sep ++ r)) sep = a.length := by
  refine index_first (by simp) (occ_iff.2 ⟨r, by simp⟩) (fun j hj => ?_)
  cases e : occAt (a ++ (sep ++ r)) sep j with
  | false => rfl
  | true =>
    have hc := occ_colon e
    by_cases hl : j + 1 < a.length
    · rw [List.getElem?_append_left hl] at hc
      exact absurd (List.mem_of_getElem? hc) h
    · have e1 : j + 1 = a.length := by omega
      rw [List.getElem?_append_right (by omega), e1, Nat.sub_self] at hc
      simp at hc
theorem index_none' {s : List UInt8} (h : 58 ∉ s) : index s sep = -1 := index_none fun j _ => by
  cases e : occAt s sep j with
  | false => rfl
  | true => exact absurd (List.mem_of_getElem? (occ_colon e)) h

def spl (s : List UInt8) : List (List UInt8) := splitK sep 0 (count s sep) s
theorem spl_none {s : List UInt8} (h : 58 ∉ s) : spl s = [s] := by
  unfold spl
  rw [count_miss (index_none' h)]
  rfl
theorem spl_hit {a : List UInt8} (r : List UInt8) (h : 58 ∉ a) : spl (a ++ (sep ++ r)) = a :: spl r := by
  have hi := index_hit r h
  have hd : (a ++ (sep ++ r)).drop (a.length + sep.length) = r := by
    rw [← List.drop_drop, List.drop_left, List.drop_left]
  unfold spl
  rw [count_hit (by simp) hi, hd, Nat.add_comm 1, splitK, hi]
  have h1 : ((a.length : Int) == -1) = false := by rw [beq_eq_false_iff_ne]; omega
  rw [h1]
  simp only [Bool.false_eq_true, if_false, Int.toNat_natCast, Nat.add_zero]
  rw [List.take_left, hd]

/-- The parts with the separator behind each but the last. -/
def joinT : List (List UInt8) → List UInt8
  | [] => []
  | [p] => p
  | p :: q :: r => p ++ (sep ++ joinT (q :: r))
theorem joinT_cons (p : List UInt8) {l : List (List UInt8)} (h : l ≠ []) : joinT (p :: l) = p ++ (sep ++ joinT l) := by
  cases l with
  | nil => exact absurd rfl h
  | cons q r => rfl
theorem splitK_ne (k : Nat) (s : List UInt8) : splitK sep 0 k s ≠ [] := by
  cases k with
  | zero => simp [splitK]
  | succ k =>
    unfold splitK
    split <;> simp
theorem spl_ne (s : List UInt8) : spl s ≠ [] := splitK_ne _ _
theorem join_splitK : ∀ (k : Nat) (s : List UInt8), joinT (splitK sep 0 k s) = s
  | 0, s => rfl
  | k + 1, s => by
    rcases index_spec s sep with ⟨h, _⟩ | ⟨i, h, hi, ho, _⟩
    · unfold splitK
      rw [h]
      rfl
    · obtain ⟨r, hr⟩ := occ_iff.1 ho
      unfold splitK
      rw [h]
      have h1 : ((i : Int) == -1) = false := by rw [beq_eq_false_iff_ne]; omega
      rw [h1]
      simp only [Bool.false_eq_true, if_false, Int.toNat_natCast, Nat.add_zero]
      rw [joinT_cons _ (splitK_ne _ _), join_splitK k]
      have h2 : s.drop (i + sep.length) = r := by rw [← List.drop_drop, hr, List.drop_left]
      rw [h2, ← hr, List.take_append_drop]
theorem join_spl (s : List UInt8) : joinT (spl s) = s := join_splitK _ _
theorem joinT_snoc : ∀ (l : List (List UInt8)) (p : List UInt8), joinT (l ++ [p]) = (l.map fun x => x ++ sep).flatten ++ p
  | [], p => rfl
  | a :: l, p => by
    rw [List.cons_append, joinT_cons _ (by simp), joinT_snoc l p]
    simp
theorem splitK_len (k : Nat) : ∀ s : List UInt8, (splitK sep 0 k s).length ≤ k + 1 := by
  induction k with
  | zero => intro s; simp [splitK]
  | succ k ih =>
    intro s
    unfold splitK
    split
    · simp
    · have := ih (s.drop ((index s sep).toNat + sep.length))
      rw [List.length_cons]
      exact Nat.succ_le_succ this
theorem spl_len (s : List UInt8) : (spl s).length ≤ s.length + 2 := by
  have h1 := splitK_len (count s sep) s
  have h2 := count_le s sep
  unfold spl
  omega
theorem flat_len {α : Type} : ∀ (l : List (List α)) {p : List α}, p ∈ l → p.length ≤ l.flatten.length
  | a :: l, p, h => by
    rw [List.flatten_cons, List.length_append]
    rcases List.mem_cons.1 h with rfl | h
    · omega
    · have := flat_len l h
      omega
theorem spl_part (s : List UInt8) {p : List UInt8} (h : p ∈ spl s) : p.length ≤ s.length := by
  have hj := join_spl s
  obtain ⟨l, q, e⟩ : ∃ l q, spl s = l ++ [q] := ⟨_, _, (List.dropLast_concat_getLast (spl_ne s)).symm⟩
  rw [e] at h hj
  rw [joinT_snoc] at hj
  have hl := congrArg List.length hj
  rw [List.length_append] at hl
  rcases List.mem_append.1 h with h | h
  · have := flat_len (l.map fun x => x ++ sep) (p := p ++ sep) (List.mem_map.2 ⟨p, h, rfl⟩)
    rw [List.length_append] at this
    omega
  · rw [List.mem_singleton.1 h]
    omega
end ArgSp
end Go.Proofs.YtiilopfhlmeaoaaGreatDoor

/-
  Plain mathematics of sums and arguments: which are valid, how they are written, what is read. Imports nothing of the program.
-/
namespace Go.Proofs.YtiilopfhlmeaoaaGreatDoor
namespace ArgM
open TextM NameM SortM

abbrev Sm := Int × List TItem
def intName (s : ByteArray) : Bool := validName s && !listName s
/-- A term of a valid sum. -/
def termV (t : TItem) : Bool := decide (t.1 ≠ 0) && ArithM.inF t.1 && intName t.2
def ascN (a b : TItem) : Bool := decide (a.2.data.toList < b.2.data.toList)
def ordT : List TItem → Bool
  | a :: b :: r => ascN a b && ordT (b :: r)
  | _ => true
theorem ordT_iff : ∀ {ts : List TItem}, ordT ts = true ↔ ∀ k a b, ts[k]? = some a → ts[k + 1]? = some b → ascN a b = true
  | [] => ⟨fun _ k a b h => by simp at h, fun _ => rfl⟩
  | [a] => ⟨fun _ k a b _ h => by simp at h, fun _ => rfl⟩
  | x :: y :: r => by
    rw [ordT, Bool.and_eq_true, ordT_iff (ts := y :: r)]
    constructor
    · rintro ⟨h1, h2⟩ k a b ha hb
      cases k with
      | zero =>
        simp only [List.getElem?_cons_zero, Option.some.injEq, Nat.zero_add, List.getElem?_cons_succ] at ha hb
        subst ha; subst hb
        exact h1
      | succ k => exact h2 k a b (by simpa using ha) (by simpa using hb)
    · intro h
      exact ⟨h 0 x y rfl rfl, fun k a b ha hb => h (k + 1) a b (by simpa using ha) (by simpa using hb)⟩
def sumV (s : Sm) : Bool := ArithM.inF s.1 && decide (s.2.length ≤ 4) && (s.2.all termV && ordT s.2)
theorem sumV_iff {s : Sm} : sumV s = true ↔ ArithM.inF s.1 = true ∧ s.2.length ≤ 4 ∧ (∀ t ∈ s.2, termV t = true) ∧ ordT s.2 = true := by
  simp only [sumV, Bool.and_eq_true, decide_eq_true_eq, List.all_eq_true]
  exact ⟨fun ⟨⟨a, b⟩, c, d⟩ => ⟨a, b, c, d⟩, fun ⟨a, b, c, d⟩ => ⟨⟨a, b⟩, c, d⟩⟩
theorem termV_iff {t : TItem} : termV t = true ↔ t.1 ≠ 0 ∧ ArithM.inF t.1 = true ∧ intName t.2 = true := by
  simp only [termV, Bool.and_eq_true, decide_eq_true_eq]
  exact ⟨fun ⟨⟨a, b⟩, c⟩ => ⟨a, b, c⟩, fun ⟨a, b, c⟩ => ⟨⟨a, b⟩, c⟩⟩
theorem intName_valid {s : ByteArray} (h : intName s = true) : validName s = true := by
  simp only [intName, Bool.and_eq_true] at h
  exact h.1
theorem valid_shape {s : ByteArray} (h : validName s = true) : NameM.shape s.data.toList = true ∧ s.size ≤ 8 := by
  simp only [validName, Bool.and_eq_true, decide_eq_true_eq] at h
  exact h.1
theorem asc_head : ∀ {ts : List TItem} {a : TItem}, ordT (a :: ts) = true → ∀ t ∈ ts, a.2.data.toList < t.2.data.toList
  | [], _, _, _, h => by cases h
  | b :: r, a, h, t, ht => by
    rw [ordT, Bool.and_eq_true] at h
    have h1 : a.2.data.toList < b.2.data.toList := by simpa [ascN] using h.1
    rcases List.mem_cons.1 ht with rfl | ht
    · exact h1
    · exact lt_trans h1 (asc_head h.2 t ht)
theorem ordT_tail {a : TItem} {ts : List TItem} (h : ordT (a :: ts) = true) : ordT ts = true := by
  cases ts with
  | nil => rfl
  | cons b r =>
    rw [ordT, Bool.and_eq_true] at h
    exact h.2
theorem asc_get : ∀ {ts : List TItem}, ordT ts = true → ∀ (i j : Nat) a b, i < j → ts[i]? = some a → ts[j]? = some b → a.2.data.toList < b.2.data.toList
  | [], _, i, j, a, b, _, h, _ => by simp at h
  | x :: ts, h, 0, j + 1, a, b, _, ha, hb => by
    simp only [List.getElem?_cons_zero, Option.some.injEq, List.getElem?_cons_succ] at ha hb
    subst ha
    exact asc_head h b (List.mem_of_getElem? hb)
  | x :: ts, h, i + 1, j + 1, a, b, hij, ha, hb => asc_get (ordT_tail h) i j a b (by omega) (by simpa using ha) (by simpa using hb)
abbrev nms (s : Sm) : List ByteArray := s.2.map (·.2)
abbrev cfs (s : Sm) : List Int := s.2.map (·.1)
theorem names_of {s : Sm} (h : sumV s = true) : Names (nms s) := by
  obtain ⟨_, h2, h3, h4⟩ := sumV_iff.1 h
  refine ⟨by simp only [nms, List.length_map]; omega, fun i j n hi hj => ?_, fun n hn => ?_⟩
  · rw [List.getElem?_map, Option.map_eq_some_iff] at hi hj
    obtain ⟨a, ha, rfl⟩ := hi
    obtain ⟨b, hb, e⟩ := hj
    rcases Nat.lt_trichotomy i j with h | h | h
    · have := asc_get h4 i j a b h ha hb
      rw [e] at this
      exact absurd this (lt_irrefl _)
    · exact h
    · have := asc_get h4 j i b a h hb ha
      rw [e] at this
      exact absurd this (lt_irrefl _)
  · obtain ⟨t, ht, rfl⟩ := List.mem_map.1 hn
    exact (valid_shape (intName_valid (termV_iff.1 (h3 t ht)).2.2)).1
/-- How a sum is written. -/
def fmtS (s : Sm) : List UInt8 := fmt (nms s) s.1 (cfs s)
def itemsS (s : Sm) : List TItem := items (nms s) s.1 (cfs s)
theorem zip_self : ∀ ts : List TItem, (ts.map (·.1)).zip (ts.map (·.2)) = ts
  | [] => rfl
  | t :: ts => by rw [List.map_cons, List.map_cons, List.zip_cons_cons, zip_self ts]
theorem itemsS_eq {s : Sm} (h : ∀ t ∈ s.2, t.1 ≠ 0) : itemsS s = if s.2 = [] ∧ s.1 = 0 then [(0, ByteArray.empty)] else s.2 ++ (if s.1 = 0 then [] else [(s.1, ByteArray.empty)]) := by
  have hf : ((mk (nms s) s.1 (cfs s)).filter fun p => decide (p.1 ≠ 0)) = s.2 ++ (if s.1 = 0 then [] else [(s.1, ByteArray.empty)]) := by
    unfold mk
    rw [zip_self, List.filter_append, List.filter_eq_self.2 (fun t ht => by simpa using h t ht)]
    congr 1
    by_cases h0 : s.1 = 0 <;> simp [h0]
  unfold itemsS items
  rw [hf]
  by_cases h1 : s.2 = []
  · by_cases h0 : s.1 = 0
    · rw [if_pos (by rw [h1, if_pos h0]; rfl), if_pos ⟨h1, h0⟩]
    · rw [if_neg (by rw [if_neg h0]; simp), if_neg (show ¬ (s.2 = [] ∧ s.1 = 0) from fun e => h0 e.2)]
  · rw [if_neg (fun e => h1 (List.append_eq_nil_iff.1 e).1), if_neg (show ¬ (s.2 = [] ∧ s.1 = 0) from fun e => h1 e.1)]
def SmallS (hi : Int) (s : Sm) : Prop := (-hi ≤ s.1 ∧ s.1 ≤ hi) ∧ ∀ t ∈ s.2, -hi ≤ t.1 ∧ t.1 ≤ hi
theorem small_mill {s : Sm} (h : sumV s = true) : SmallS 1000000 s := by
  obtain ⟨h1, _, h3, _⟩ := sumV_iff.1 h
  exact ⟨ArithM.inF_iff.1 h1, fun t ht => ArithM.inF_iff.1 (termV_iff.1 (h3 t ht)).2.1⟩
theorem items_ok {hi : Int} (h0 : 0 ≤ hi) {s : Sm} (h : sumV s = true) (hs : SmallS hi s) : ∀ t ∈ itemsS s, TextM.Good hi t :=
  items_good h0 (names_of h) ⟨hs.1, fun x hx => by
    obtain ⟨t, ht, rfl⟩ := List.mem_map.1 hx
    exact hs.2 t ht⟩
/-- The terms laid into a sum, one by one. -/
def stepS (l : Sm) (t : TItem) : Sm := if t.2.size = 0 then (t.1, l.2) else (l.1, l.2 ++ [t])
def RS (ts : List TItem) : Sm := ts.foldl stepS (0, [])
theorem fold_named : ∀ (ts pre : List TItem) (z : Int), (∀ t ∈ ts, t.2.size ≠ 0) → ts.foldl stepS (z, pre) = (z, pre ++ ts)
  | [], pre, z, _ => by simp
  | t :: ts, pre, z, h => by
    rw [List.foldl_cons, stepS, if_neg (h t List.mem_cons_self), fold_named ts _ z (fun u hu => h u (List.mem_cons_of_mem _ hu))]
    simp
theorem RS_items {s : Sm} (h : sumV s = true) : RS (itemsS s) = s := by
  obtain ⟨_, _, h3, _⟩ := sumV_iff.1 h
  have hn : ∀ t ∈ s.2, t.2.size ≠ 0 := fun t ht => by
    have := shape_pos (valid_shape (intName_valid (termV_iff.1 (h3 t ht)).2.2)).1
    omega
  rw [itemsS_eq (fun t ht => (termV_iff.1 (h3 t ht)).1)]
  obtain ⟨z, ts⟩ := s
  simp only at hn ⊢
  unfold RS
  split
  · rename_i hc
    obtain ⟨rfl, rfl⟩ := hc
    rfl
  · rw [List.foldl_append, fold_named ts [] 0 hn, List.nil_append]
    split
    · rename_i h0
      subst h0
      rfl
    · rw [List.foldl_cons, List.foldl_nil, stepS, if_pos (by rfl)]
theorem foldS_small {hi : Int} : ∀ (ts : List TItem) (l : Sm), SmallS hi l → (∀ t ∈ ts, -hi ≤ t.1 ∧ t.1 ≤ hi) → SmallS hi (ts.foldl stepS l)
  | [], l, h, _ => h
  | t :: ts, l, h, ht => by
    rw [List.foldl_cons]
    refine foldS_small ts _ ?_ (fun u hu => ht u (List.mem_cons_of_mem _ hu))
    unfold stepS
    split
    · exact ⟨ht t List.mem_cons_self, h.2⟩
    · refine ⟨h.1, fun u hu => ?_⟩
      rcases List.mem_append.1 hu with hu | hu
      · exact h.2 u hu
      · rw [List.mem_singleton.1 hu]
        exact ht t List.mem_cons_self
theorem RS_len : ∀ (ts : List TItem) (l : Sm), (ts.foldl stepS l).2.length ≤ l.2.length + ts.length
  | [], l => by simp
  | t :: ts, l => by
    rw [List.foldl_cons]
    have := RS_len ts (stepS l t)
    have h2 : (stepS l t).2.length ≤ l.2.length + 1 := by
      unfold stepS
      split <;> simp
    rw [List.length_cons]
    omega
theorem RS_small {s : List UInt8} {ts : List TItem} (h : Scans s ts) : SmallS 999999 (RS ts) :=
  foldS_small ts _ ⟨⟨by omega, by omega⟩, fun t ht => by cases ht⟩ h.1

theorem fmtS_inj {a b : Sm} (ha : sumV a = true) (hb : sumV b = true) (h : fmtS a = fmtS b) : a = b := by
  unfold fmtS at h
  rw [fmt_eq, fmt_eq] at h
  have e1 := scanI_render (items_ne _ _ _) (items_ok (show (0 : Int) ≤ 1000000 by omega) ha (small_mill ha))
  have e2 := scanI_render (items_ne _ _ _) (items_ok (show (0 : Int) ≤ 1000000 by omega) hb (small_mill hb))
  unfold itemsS at *
  rw [h, e2] at e1
  have r1 := RS_items ha
  have r2 := RS_items hb
  unfold itemsS at r1 r2
  rw [← e1, r2] at r1
  exact r1.symm
/-- The text is that of the sum, which a parser can read. -/
def IsS (t : List UInt8) (s : Sm) : Prop := sumV s = true ∧ SmallS 999999 s ∧ fmtS s = t
theorem isS_scan {t : List UInt8} {ts : List TItem} {s : Sm} (h : Scans t ts) (hs : IsS t s) : RS ts = s := by
  obtain ⟨h1, h2, h3⟩ := hs
  have e : render (itemsS s) = t := by unfold itemsS; rw [← fmt_eq]; exact h3
  rw [h.2 _ (items_ne _ _ _) (items_ok (by omega) h1 h2) e]
  exact RS_items h1
/-- The sum whose representation the text is. -/
def parseS (t : List UInt8) : Option Sm := if sumV (RS (scanI 999999 t)) = true ∧ fmtS (RS (scanI 999999 t)) = t then some (RS (scanI 999999 t)) else none
theorem parseS_iff {t : List UInt8} {s : Sm} : parseS t = some s ↔ IsS t s := by
  unfold parseS
  constructor
  · intro h
    split at h
    · rename_i hc
      injection h with h
      subst h
      exact ⟨hc.1, RS_small (scansI t), hc.2⟩
    · cases h
  · intro h
    have e := isS_scan (scansI t) h
    rw [e, if_pos ⟨h.1, h.2.2⟩]
theorem parseS_scan {t : List UInt8} {ts : List TItem} (h : Scans t ts) : parseS t = if sumV (RS ts) = true ∧ fmtS (RS ts) = t then some (RS ts) else none := by
  split
  · rename_i hc
    exact parseS_iff.2 ⟨hc.1, RS_small h, hc.2⟩
  · rename_i hc
    cases e : parseS t with
    | none => rfl
    | some s =>
      have hs := parseS_iff.1 e
      rw [isS_scan h hs] at hc
      exact absurd ⟨hs.1, hs.2.2⟩ hc

/-- Nothing where the sum isn't valid. -/
def FS (s : Sm) : List UInt8 := if sumV s = true then fmtS s else []
theorem FS_ne {s : Sm} {t : List UInt8} (ht : t ≠ []) (h : FS s = t) : sumV s = true ∧ fmtS s = t := by
  unfold FS at h
  split at h
  · rename_i hv
    exact ⟨hv, h⟩
  · exact absurd h.symm ht
theorem FS_no {t : List UInt8} (ht : t ≠ []) {s : Sm} (h : ¬ (sumV s = true ∧ fmtS s = t)) : FS s ≠ t := fun e => h (FS_ne ht e)

theorem name_no {s : ByteArray} (h : s.size = 0 ∨ NameM.shape s.data.toList = true) : ∀ c ∈ s.data.toList, c ≠ 58 ∧ c ≠ 32 := fun c hc => by
  rcases h with h | h
  · rw [size_zero h] at hc; cases hc
  · obtain ⟨a, r, e, h1, h2⟩ := shape_head h
    rw [e] at hc
    have : (letter c || digit c) = true := by
      rcases List.mem_cons.1 hc with rfl | hc
      · rw [h1]; rfl
      · exact h2 c hc
    simp only [letter, digit, Bool.or_eq_true, Bool.and_eq_true, decide_eq_true_eq] at this
    refine ⟨?_, ?_⟩ <;> (rintro rfl; simp at this)
theorem word_no {hi : Int} {t : TItem} (h : TextM.Good hi t) : 58 ∉ word t.1 t.2 := fun hc => by
  unfold word at hc
  split at hc
  · exact (name_no h.2 _ hc).1 rfl
  · rw [itoa_nat] at hc
    rcases List.mem_append.1 hc with hc | hc
    · have := digits_digit _ _ hc
      simp [digit] at this
    · exact (name_no h.2 _ hc).1 rfl
theorem sgn_no (a b : Bool) : (58 : UInt8) ∉ sgn a b := by cases a <;> cases b <;> decide
theorem rest_no {hi : Int} : ∀ l : List TItem, (∀ t ∈ l, TextM.Good hi t) → 58 ∉ rest l
  | [], _, h => by cases h
  | p :: r, hg, h => by
    rw [rest] at h
    rcases List.mem_append.1 h with h | h
    · exact sgn_no _ _ h
    · rcases List.mem_append.1 h with h | h
      · exact word_no (hg p List.mem_cons_self) h
      · exact rest_no r (fun t ht => hg t (List.mem_cons_of_mem _ ht)) h
theorem render_no {hi : Int} {l : List TItem} (hg : ∀ t ∈ l, TextM.Good hi t) : 58 ∉ render l := fun h => by
  cases l with
  | nil => cases h
  | cons p r =>
    rw [render] at h
    rcases List.mem_append.1 h with h | h
    · exact sgn_no _ _ h
    · rcases List.mem_append.1 h with h | h
      · exact word_no (hg p List.mem_cons_self) h
      · exact rest_no r (fun t ht => hg t (List.mem_cons_of_mem _ ht)) h
theorem fmtS_no {s : Sm} (h : sumV s = true) : 58 ∉ fmtS s := by
  unfold fmtS
  rw [fmt_eq]
  exact render_no (items_ok (hi := 1000000) (by omega) h (small_mill h))
theorem fmtS_ne (s : Sm) : fmtS s ≠ [] := fmt_ne _ _ _

/-- What stands behind the heads. -/
def baseT (b : ByteArray) : List UInt8 := if b.size = 0 then [110, 105, 108] else b.data.toList
def baseV (b : ByteArray) : Bool := decide (b.size = 0) || listName b
theorem list_valid {b : ByteArray} (h : listName b = true) : validName b = true := by
  simp only [listName, Bool.and_eq_true] at h
  exact h.1
theorem base_shape {b : ByteArray} (h : baseV b = true) : NameM.shape (baseT b) = true := by
  unfold baseT
  simp only [baseV, Bool.or_eq_true, decide_eq_true_eq] at h
  split
  · decide
  · rename_i h0
    exact (valid_shape (list_valid (h.resolve_left h0))).1
theorem base_no {b : ByteArray} (h : baseV b = true) : 58 ∉ baseT b := fun hc => (name_no (s := ⟨(baseT b).toArray⟩) (Or.inr (by simpa using base_shape h)) 58 (by simpa using hc)).1 rfl
theorem nil_resv : validName ⟨#[110, 105, 108]⟩ = false := by decide
theorem base_inj {a b : ByteArray} (ha : baseV a = true) (hb : baseV b = true) (h : baseT a = baseT b) : a = b := by
  have key : ∀ {x : ByteArray}, baseV x = true → x.size ≠ 0 → x.data.toList ≠ [110, 105, 108] := fun {x} hx h0 e => by
    simp only [baseV, Bool.or_eq_true, decide_eq_true_eq] at hx
    have := list_valid (hx.resolve_left h0)
    rw [show x = ⟨#[110, 105, 108]⟩ from toList_inj e, nil_resv] at this
    cases this
  unfold baseT at h
  by_cases h1 : a.size = 0
  · by_cases h2 : b.size = 0
    · exact toList_inj (by rw [size_zero h1, size_zero h2])
    · rw [if_pos h1, if_neg h2] at h
      exact absurd h.symm (key hb h2)
  · by_cases h2 : b.size = 0
    · rw [if_neg h1, if_pos h2] at h
      exact absurd h (key ha h1)
    · rw [if_neg h1, if_neg h2] at h
      exact toList_inj h
/-- No sum is written as a base. -/
theorem fmtS_base {s : Sm} {b : ByteArray} (hs : sumV s = true) (hb : baseV b = true) : fmtS s ≠ baseT b := fun e => by
  have hsh := base_shape hb
  obtain ⟨c, r, e1, hc, hr⟩ := shape_head hsh
  have hg : TextM.Good 1000000 ((1 : Int), (⟨(baseT b).toArray⟩ : ByteArray)) := ⟨by simp, Or.inr (by simpa using hsh)⟩
  have hw : render [((1 : Int), (⟨(baseT b).toArray⟩ : ByteArray))] = baseT b := by
    have hne : (ByteArray.mk (baseT b).toArray).size ≠ 0 := by
      show (baseT b).toArray.size ≠ 0
      rw [e1]; simp
    simp [render, rest, word, sgn, hne]
  have e2 := scanI_render (l := [((1 : Int), (⟨(baseT b).toArray⟩ : ByteArray))]) (by simp) (fun t ht => by rw [List.mem_singleton.1 ht]; exact hg)
  have e3 := scanI_render (items_ne _ _ _) (items_ok (show (0 : Int) ≤ 1000000 by omega) hs (small_mill hs))
  have e4 : render (itemsS s) = fmtS s := by unfold itemsS fmtS; rw [fmt_eq]
  unfold itemsS at e3 e4
  rw [e4, e, ← hw, e2] at e3
  obtain ⟨_, _, h3, _⟩ := sumV_iff.1 hs
  have e5 := itemsS_eq (s := s) (fun t ht => (termV_iff.1 (h3 t ht)).1)
  unfold itemsS at e5
  rw [← e3] at e5
  have hm : ((1 : Int), (⟨(baseT b).toArray⟩ : ByteArray)) ∈ s.2 := by
    have hne : (⟨(baseT b).toArray⟩ : ByteArray) ≠ ByteArray.empty := fun e => by
      have := congrArg (fun x : ByteArray => x.data.toList) e
      simp only [e1] at this
      cases this
    split at e5
    · injection e5 with e5 _
      injection e5 with e5 e6
      exact absurd e6 hne
    · have : ((1 : Int), (⟨(baseT b).toArray⟩ : ByteArray)) ∈ s.2 ++ (if s.1 = 0 then [] else [(s.1, ByteArray.empty)]) := by rw [← e5]; exact List.mem_cons_self
      rcases List.mem_append.1 this with h | h
      · exact h
      · split at h
        · cases h
        · injection List.mem_singleton.1 h with _ e6
          exact absurd e6 hne
  have hi := (termV_iff.1 (h3 _ hm)).2.2
  simp only [intName, Bool.and_eq_true, Bool.not_eq_true'] at hi
  unfold baseT at hi
  simp only [baseV, Bool.or_eq_true, decide_eq_true_eq] at hb
  split at hi
  · have := hi.1
    rw [show (ByteArray.mk ([110, 105, 108] : List UInt8).toArray) = ⟨#[110, 105, 108]⟩ from rfl, nil_resv] at this
    cases this
  · rename_i h0
    rw [mk_list] at hi
    rw [hb.resolve_left h0] at hi
    cases hi.2

abbrev Ag := Bool × List Sm × ByteArray
def argV (a : Ag) : Bool := a.2.1.all sumV && (if a.1 then decide (a.2.1.length ≤ 3) && baseV a.2.2 else decide (a.2.1.length = 1) && decide (a.2.2.size = 0))
def headsT (hs : List Sm) : List UInt8 := (hs.map fun h => fmtS h ++ ArgSp.sep).flatten
def fmtA (a : Ag) : List UInt8 := if a.1 then headsT a.2.1 ++ baseT a.2.2 else fmtS (a.2.1.headD (0, []))
def FA (a : Ag) : List UInt8 := if argV a = true then fmtA a else []
theorem argV_list {hs : List Sm} {b : ByteArray} : argV (true, hs, b) = true ↔ (∀ h ∈ hs, sumV h = true) ∧ hs.length ≤ 3 ∧ baseV b = true := by
  simp [argV]
theorem argV_int {hs : List Sm} {b : ByteArray} : argV (false, hs, b) = true ↔ ∃ h, hs = [h] ∧ sumV h = true ∧ b.size = 0 := by
  constructor
  · intro h
    simp only [argV, Bool.and_eq_true, List.all_eq_true, decide_eq_true_eq, Bool.false_eq_true, if_false] at h
    obtain ⟨h1, h2, h3⟩ := h
    obtain ⟨x, rfl⟩ : ∃ x, hs = [x] := by
      match hs, h2 with
      | [x], _ => exact ⟨x, rfl⟩
    exact ⟨x, rfl, h1 x List.mem_cons_self, h3⟩
  · rintro ⟨x, rfl, h1, h2⟩
    simp [argV, h1, h2]
/-- The text's parts. -/
def parts (hs : List Sm) (b : ByteArray) : List (List UInt8) := hs.map fmtS ++ [baseT b]
theorem fmtA_parts (hs : List Sm) (b : ByteArray) : headsT hs ++ baseT b = ArgSp.joinT (parts hs b) := by
  unfold parts headsT
  rw [ArgSp.joinT_snoc, List.map_map]
  rfl
theorem spl_parts : ∀ {hs : List Sm} {b : ByteArray}, (∀ h ∈ hs, sumV h = true) → baseV b = true → ArgSp.spl (headsT hs ++ baseT b) = parts hs b
  | [], b, _, hb => ArgSp.spl_none (base_no hb)
  | h :: hs, b, hh, hb => by
    have e : headsT (h :: hs) ++ baseT b = fmtS h ++ (ArgSp.sep ++ (headsT hs ++ baseT b)) := by
      simp [headsT]
    rw [e, ArgSp.spl_hit _ (fmtS_no (hh h List.mem_cons_self)), spl_parts (fun x hx => hh x (List.mem_cons_of_mem _ hx)) hb]
    rfl
theorem map_inj : ∀ {a b : List Sm}, (∀ h ∈ a, sumV h = true) → (∀ h ∈ b, sumV h = true) → a.map fmtS = b.map fmtS → a = b
  | [], [], _, _, _ => rfl
  | x :: a, y :: b, ha, hb, h => by
    rw [List.map_cons, List.map_cons] at h
    injection h with h1 h2
    rw [fmtS_inj (ha x List.mem_cons_self) (hb y List.mem_cons_self) h1, map_inj (fun h m => ha h (List.mem_cons_of_mem _ m)) (fun h m => hb h (List.mem_cons_of_mem _ m)) h2]
  | [], _ :: _, _, _, h => by simp at h
  | _ :: _, [], _, _, h => by simp at h
theorem parts_inj {a b : List Sm} {s t : ByteArray} (ha : ∀ h ∈ a, sumV h = true) (hb : ∀ h ∈ b, sumV h = true) (hs : baseV s = true) (ht : baseV t = true) (h : parts a s = parts b t) : a = b ∧ s = t := by
  unfold parts at h
  have hl := congrArg List.length h
  simp only [List.length_append, List.length_map, List.length_singleton] at hl
  obtain ⟨h1, h2⟩ := List.append_inj h (by simp; omega)
  injection h2 with h2 _
  exact ⟨map_inj ha hb h1, base_inj hs ht h2⟩
theorem last_parts (hs : List Sm) (b : ByteArray) : (parts hs b).getLast? = some (baseT b) := by simp [parts]
theorem fmtA_inj {a b : Ag} (ha : argV a = true) (hb : argV b = true) (h : fmtA a = fmtA b) : a = b := by
  obtain ⟨p, hs, s⟩ := a
  obtain ⟨q, ks, t⟩ := b
  cases p with
  | true =>
    obtain ⟨a1, a2, a3⟩ := argV_list.1 ha
    cases q with
    | true =>
      obtain ⟨b1, b2, b3⟩ := argV_list.1 hb
      have e : headsT hs ++ baseT s = headsT ks ++ baseT t := h
      have e2 := congrArg ArgSp.spl e
      rw [spl_parts a1 a3, spl_parts b1 b3] at e2
      obtain ⟨rfl, rfl⟩ := parts_inj a1 b1 a3 b3 e2
      rfl
    | false =>
      obtain ⟨k, rfl, b1, b2⟩ := argV_int.1 hb
      have e : headsT hs ++ baseT s = fmtS k := h
      have e2 := congrArg ArgSp.spl e
      rw [spl_parts a1 a3, ArgSp.spl_none (fmtS_no b1)] at e2
      have e3 := last_parts hs s
      rw [e2] at e3
      exact absurd (by simpa using e3) (fmtS_base b1 a3)
  | false =>
    obtain ⟨k, rfl, a1, a2⟩ := argV_int.1 ha
    cases q with
    | true =>
      obtain ⟨b1, b2, b3⟩ := argV_list.1 hb
      have e : fmtS k = headsT ks ++ baseT t := h
      have e2 := congrArg ArgSp.spl e
      rw [spl_parts b1 b3, ArgSp.spl_none (fmtS_no a1)] at e2
      have e3 := last_parts ks t
      rw [← e2] at e3
      exact absurd (by simpa using e3) (fmtS_base a1 b3)
    | false =>
      obtain ⟨l, rfl, b1, b2⟩ := argV_int.1 hb
      have e : fmtS k = fmtS l := h
      rw [fmtS_inj a1 b1 e, show s = t from toList_inj (by rw [size_zero a2, size_zero b2])]
/-- The text is that of the argument, which a parser can read. -/
def IsA (t : List UInt8) (a : Ag) : Prop := argV a = true ∧ (∀ h ∈ a.2.1, SmallS 999999 h) ∧ fmtA a = t
theorem isA_unique {t : List UInt8} {a b : Ag} (ha : IsA t a) (hb : IsA t b) : a = b := fmtA_inj ha.1 hb.1 (ha.2.2.trans hb.2.2.symm)
open Classical in
/-- The argument whose representation the text is. -/
noncomputable def parseA (t : List UInt8) : Option Ag := if h : ∃ a, IsA t a then some (Classical.choose h) else none
theorem parseA_some {t : List UInt8} {a : Ag} (h : IsA t a) : parseA t = some a := by
  have hx : ∃ a, IsA t a := ⟨a, h⟩
  unfold parseA
  rw [dif_pos hx]
  exact congrArg some (isA_unique (Classical.choose_spec hx) h)
theorem parseA_none {t : List UInt8} (h : ∀ a, ¬ IsA t a) : parseA t = none := by
  unfold parseA
  rw [dif_neg (fun ⟨a, ha⟩ => h a ha)]
theorem parseA_is {t : List UInt8} {a : Ag} (h : parseA t = some a) : IsA t a := by
  unfold parseA at h
  split at h
  · rename_i hx
    injection h with h
    rw [← h]
    exact Classical.choose_spec hx
  · cases h
end ArgM
end Go.Proofs.YtiilopfhlmeaoaaGreatDoor

/-
  Plain mathematics of reading an argument: the program's way (parts between " : ") and the model's (parts between ':').
-/
namespace Go.Proofs.YtiilopfhlmeaoaaGreatDoor
namespace ArgM
open TextM NameM SortM

def nilT : List UInt8 := [110, 105, 108]
/-- What the last part says: a list or not, the base, and the parts that are heads. -/
def formP (P : List (List UInt8)) : Bool × ByteArray × List (List UInt8) :=
  if P.getLast?.getD [] = nilT then (true, ByteArray.empty, P.dropLast)
  else if listName ⟨(P.getLast?.getD []).toArray⟩ = true then (true, ⟨(P.getLast?.getD []).toArray⟩, P.dropLast) else (false, ByteArray.empty, P)
def headsP : List (List UInt8) → Option (List Sm)
  | [] => some []
  | q :: Q => match parseS q, headsP Q with
    | some s, some r => some (s :: r)
    | _, _ => none
theorem headsP_some : ∀ {Q : List (List UInt8)} {hs : List Sm}, headsP Q = some hs → hs.map fmtS = Q ∧ (∀ h ∈ hs, sumV h = true ∧ SmallS 999999 h)
  | [], hs, h => by
    obtain rfl : [] = hs := Option.some.inj h
    exact ⟨rfl, fun h m => by cases m⟩
  | q :: Q, hs, h => by
    rw [headsP] at h
    split at h
    · rename_i s r h1 h2
      obtain rfl : s :: r = hs := Option.some.inj h
      obtain ⟨a1, a2, a3⟩ := parseS_iff.1 h1
      obtain ⟨b1, b2⟩ := headsP_some h2
      exact ⟨by rw [List.map_cons, a3, b1], fun x hx => by
        rcases List.mem_cons.1 hx with rfl | hx
        · exact ⟨a1, a2⟩
        · exact b2 x hx⟩
    · cases h
theorem headsP_fmt : ∀ {hs : List Sm}, (∀ h ∈ hs, sumV h = true ∧ SmallS 999999 h) → headsP (hs.map fmtS) = some hs
  | [], _ => rfl
  | h :: hs, hh => by
    obtain ⟨a1, a2⟩ := hh h List.mem_cons_self
    rw [List.map_cons, headsP, parseS_iff.2 ⟨a1, a2, rfl⟩, headsP_fmt (fun x hx => hh x (List.mem_cons_of_mem _ hx))]
theorem headsP_snoc : ∀ {Q : List (List UInt8)} {hs : List Sm} {q : List UInt8} {s : Sm}, headsP Q = some hs → parseS q = some s → headsP (Q ++ [q]) = some (hs ++ [s])
  | [], hs, q, s, h, h1 => by
    obtain rfl : [] = hs := Option.some.inj h
    rw [List.nil_append, headsP, h1]
    rfl
  | p :: Q, hs, q, s, h, h1 => by
    rw [headsP] at h
    split at h
    · rename_i x r h2 h3
      obtain rfl : x :: r = hs := Option.some.inj h
      rw [List.cons_append, headsP, h2, headsP_snoc h3 h1]
      rfl
    · cases h
theorem headsP_bad : ∀ {Q : List (List UInt8)} {q : List UInt8}, q ∈ Q → parseS q = none → headsP Q = none
  | p :: Q, q, hm, h => by
    rw [headsP]
    rcases List.mem_cons.1 hm with rfl | hm
    · rw [h]
    · rw [headsP_bad hm h]
      cases parseS p <;> rfl
/-- The program's way. -/
def progA (t : List UInt8) : Option Ag :=
  match headsP (formP (ArgSp.spl t)).2.2 with
  | some hs => if argV ((formP (ArgSp.spl t)).1, hs, (formP (ArgSp.spl t)).2.1) = true then some ((formP (ArgSp.spl t)).1, hs, (formP (ArgSp.spl t)).2.1) else none
  | none => none
theorem formP_base {P : List (List UInt8)} {b : ByteArray} (hb : baseV b = true) (hl : P.getLast?.getD [] = baseT b) : formP P = (true, b, P.dropLast) := by
  unfold formP
  rw [hl]
  by_cases h0 : b.size = 0
  · rw [show baseT b = nilT by rw [baseT, if_pos h0]; rfl, if_pos rfl]
    rw [show ByteArray.empty = b from toList_inj (by rw [size_zero h0]; rfl)]
  · have e : baseT b = b.data.toList := by rw [baseT, if_neg h0]
    have hn : listName b = true := by
      simp only [baseV, Bool.or_eq_true, decide_eq_true_eq] at hb
      exact hb.resolve_left h0
    have hne : baseT b ≠ nilT := fun h => h0 (by
      have h1 : baseT b = baseT ByteArray.empty := h
      have := base_inj hb (by decide) h1
      rw [this]; rfl)
    have em : (⟨(baseT b).toArray⟩ : ByteArray) = b := toList_inj (by rw [e])
    rw [if_neg hne, em, if_pos hn]
theorem formP_none {P : List (List UInt8)} (h : ∀ b, baseV b = true → P.getLast?.getD [] ≠ baseT b) : formP P = (false, ByteArray.empty, P) := by
  unfold formP
  rw [if_neg (fun e => h ByteArray.empty (by decide) (by rw [e]; rfl)), if_neg (fun e => ?_)]
  refine h ⟨(P.getLast?.getD []).toArray⟩ (by simp [baseV, e]) ?_
  have hsz : (⟨(P.getLast?.getD []).toArray⟩ : ByteArray).size ≠ 0 := fun h0 => by
    have := (list_valid e)
    rw [show (⟨(P.getLast?.getD []).toArray⟩ : ByteArray) = ByteArray.empty from toList_inj (by rw [size_zero h0]; rfl)] at this
    revert this
    decide
  rw [baseT, if_neg hsz]
theorem formP_cases (P : List (List UInt8)) : (∃ b, baseV b = true ∧ P.getLast?.getD [] = baseT b ∧ formP P = (true, b, P.dropLast)) ∨ ((∀ b, baseV b = true → P.getLast?.getD [] ≠ baseT b) ∧ formP P = (false, ByteArray.empty, P)) := by
  by_cases h : ∃ b, baseV b = true ∧ P.getLast?.getD [] = baseT b
  · obtain ⟨b, h1, h2⟩ := h
    exact Or.inl ⟨b, h1, h2, formP_base h1 h2⟩
  · have h' : ∀ b, baseV b = true → P.getLast?.getD [] ≠ baseT b := fun b h1 h2 => h ⟨b, h1, h2⟩
    exact Or.inr ⟨h', formP_none h'⟩
theorem last_split {P : List (List UInt8)} (h : P ≠ []) : P = P.dropLast ++ [P.getLast?.getD []] := by
  rcases List.eq_nil_or_concat P with rfl | ⟨l, a, rfl⟩
  · exact absurd rfl h
  · simp
theorem progA_eq (t : List UInt8) : parseA t = progA t := by
  cases hp : progA t with
  | some a =>
    refine parseA_some ?_
    unfold progA at hp
    split at hp
    · rename_i hs hh
      split at hp
      · rename_i hv
        obtain rfl := Option.some.inj hp
        obtain ⟨h1, h2⟩ := headsP_some hh
        refine ⟨hv, fun h hm => (h2 h hm).2, ?_⟩
        rcases formP_cases (ArgSp.spl t) with ⟨b, hb, hl, hf⟩ | ⟨_, hf⟩
        · rw [hf] at h1 ⊢
          show headsT hs ++ baseT b = t
          rw [fmtA_parts, parts, h1, ← hl]
          show ArgSp.joinT ((ArgSp.spl t).dropLast ++ [(ArgSp.spl t).getLast?.getD []]) = t
          rw [← last_split (ArgSp.spl_ne t), ArgSp.join_spl]
        · rw [hf] at h1 hv ⊢
          obtain ⟨k, rfl, hk, _⟩ := argV_int.1 hv
          have h3 : [fmtS k] = ArgSp.spl t := by simpa using h1
          have h4 := ArgSp.join_spl t
          rw [← h3] at h4
          exact h4
      · cases hp
    · cases hp
  | none =>
    refine parseA_none fun a ha => ?_
    obtain ⟨h1, h2, h3⟩ := ha
    obtain ⟨p, hs, b⟩ := a
    cases p with
    | true =>
      obtain ⟨a1, a2, a3⟩ := argV_list.1 h1
      have e : ArgSp.spl t = parts hs b := by rw [← h3]; exact spl_parts a1 a3
      have hl : (parts hs b).getLast?.getD [] = baseT b := by rw [last_parts]; rfl
      have hd : (parts hs b).dropLast = hs.map fmtS := by simp [parts]
      have hf := formP_base a3 hl
      rw [hd] at hf
      unfold progA at hp
      rw [e, hf, headsP_fmt (fun h hm => ⟨a1 h hm, h2 h hm⟩)] at hp
      simp only at hp
      rw [if_pos h1] at hp
      cases hp
    | false =>
      obtain ⟨k, rfl, hk, hb⟩ := argV_int.1 h1
      have hb' : b = ByteArray.empty := toList_inj (by rw [size_zero hb]; rfl)
      subst hb'
      have h3' : fmtS k = t := h3
      have e : ArgSp.spl t = [fmtS k] := by rw [← h3']; exact ArgSp.spl_none (fmtS_no hk)
      have hf := formP_none (P := [fmtS k]) (fun b hb => fmtS_base hk hb)
      unfold progA at hp
      rw [e, hf] at hp
      have h5 := headsP_fmt (hs := [k]) (fun h hm => by rw [List.mem_singleton.1 hm]; exact ⟨hk, h2 k List.mem_cons_self⟩)
      rw [show ([k] : List Sm).map fmtS = [fmtS k] from rfl] at h5
      simp only [h5] at hp
      rw [if_pos h1] at hp
      cases hp

/-- The model's parts: a space cut off at each side of a ':'. -/
def cuts : Bool → List (List UInt8) → List (List UInt8) × List UInt8
  | _, [] => ([], [])
  | f, [l] => ([], if f then l else l.tail)
  | f, w :: v :: r => ((if f then w else w.tail).dropLast :: (cuts false (v :: r)).1, (cuts false (v :: r)).2)
theorem cuts_cons {f : Bool} {w : List UInt8} {r : List (List UInt8)} (h : r ≠ []) : cuts f (w :: r) = ((if f then w else w.tail).dropLast :: (cuts false r).1, (cuts false r).2) := by
  cases r with
  | nil => exact absurd rfl h
  | cons v r => rfl
theorem cuts_fmt : ∀ {hs : List Sm} {b : ByteArray} (f : Bool), (∀ h ∈ hs, sumV h = true) → baseV b = true →
    cuts f (SplitM.sp 58 ((if f then [] else [32]) ++ (headsT hs ++ baseT b))) = (hs.map fmtS, baseT b)
  | [], b, f, _, hb => by
    have hn : 58 ∉ (if f then ([] : List UInt8) else [32]) ++ (headsT [] ++ baseT b) := by
      have := base_no hb
      cases f <;> simp [headsT, this]
    rw [SplitM.sp_none _ _ hn]
    cases f <;> simp [cuts, headsT]
  | h :: hs, b, f, hh, hb => by
    have hv := hh h List.mem_cons_self
    have e : (if f then ([] : List UInt8) else [32]) ++ (headsT (h :: hs) ++ baseT b) = ((if f then ([] : List UInt8) else [32]) ++ (fmtS h ++ [32])) ++ 58 :: ((if false = true then [] else [32]) ++ (headsT hs ++ baseT b)) := by
      simp [headsT, ArgSp.sep]
    have hn : 58 ∉ (if f then ([] : List UInt8) else [32]) ++ (fmtS h ++ [32]) := by
      have := fmtS_no hv
      cases f <;> simp [this]
    rw [e, SplitM.sp_hit _ _ _ hn, cuts_cons (SplitM.sp_ne _ _), cuts_fmt false (fun x hx => hh x (List.mem_cons_of_mem _ hx)) hb]
    cases f <;> simp
/-- The sum that is read, or the zero sum. -/
def zS (w : List UInt8) : Sm := (parseS w).getD (0, [])
theorem zS_small (w : List UInt8) : SmallS 999999 (zS w) := by
  unfold zS
  cases h : parseS w with
  | none => exact ⟨by decide, fun t ht => by cases ht⟩
  | some s => exact (parseS_iff.1 h).2.1
theorem zS_fmt {s : Sm} (h : sumV s = true) (h2 : SmallS 999999 s) : zS (fmtS s) = s := by
  unfold zS
  rw [parseS_iff.2 ⟨h, h2, rfl⟩]
  rfl
/-- The model's way. -/
def specA (t : List UInt8) : Option Ag :=
  match formP [(cuts true (SplitM.sp 58 t)).2] with
  | (true, b, _) => if FA (true, (cuts true (SplitM.sp 58 t)).1.map zS, b) = t then some (true, (cuts true (SplitM.sp 58 t)).1.map zS, b) else none
  | (false, _, _) => (parseS t).map fun s => (false, [s], ByteArray.empty)
theorem cuts_int {t : List UInt8} (h : 58 ∉ t) : cuts true (SplitM.sp 58 t) = ([], t) := by
  rw [SplitM.sp_none _ _ h]
  rfl
theorem specA_eq (t : List UInt8) : parseA t = specA t := by
  unfold specA
  rcases formP_cases [(cuts true (SplitM.sp 58 t)).2] with ⟨b, hb, hl, hf⟩ | ⟨hn, hf⟩
  · rw [hf]
    simp only
    have hl' : (cuts true (SplitM.sp 58 t)).2 = baseT b := by simpa using hl
    by_cases he : FA (true, (cuts true (SplitM.sp 58 t)).1.map zS, b) = t
    · rw [if_pos he]
      have hv : argV (true, (cuts true (SplitM.sp 58 t)).1.map zS, b) = true := by
        cases h : argV (true, (cuts true (SplitM.sp 58 t)).1.map zS, b) with
        | true => rfl
        | false =>
          have h2 : t = [] := by rw [← he]; simp [FA, h]
          rw [h2] at hl'
          have h3 : ([] : List UInt8) = baseT b := hl'
          have := base_shape hb
          rw [← h3] at this
          revert this
          decide
      refine parseA_some ⟨hv, fun h hm => ?_, by have h6 := he; rw [FA, if_pos hv] at h6; exact h6⟩
      obtain ⟨w, _, rfl⟩ := List.mem_map.1 hm
      exact zS_small w
    · rw [if_neg he]
      refine parseA_none fun a ha => he ?_
      obtain ⟨h1, h2, h3⟩ := ha
      obtain ⟨p, hs, b2⟩ := a
      cases p with
      | true =>
        obtain ⟨a1, a2, a3⟩ := argV_list.1 h1
        have h4 := cuts_fmt (hs := hs) (b := b2) true a1 a3
        rw [show (if true = true then ([] : List UInt8) else [32]) ++ (headsT hs ++ baseT b2) = t from h3] at h4
        rw [h4] at hl' ⊢
        obtain rfl := base_inj a3 hb hl'
        have h5 : (hs.map fmtS).map zS = hs := by
          rw [List.map_map]
          conv => rhs; rw [← List.map_id hs]
          exact List.map_congr_left fun h hm => zS_fmt (a1 h hm) (h2 h hm)
        simp only [h5]
        rw [FA, if_pos h1]
        exact h3
      | false =>
        obtain ⟨k, rfl, hk, hb2⟩ := argV_int.1 h1
        have h3' : fmtS k = t := h3
        rw [← h3', cuts_int (fmtS_no hk)] at hl'
        exact absurd hl' (fmtS_base hk hb)
  · rw [hf]
    simp only
    have hn' : ∀ b, baseV b = true → (cuts true (SplitM.sp 58 t)).2 ≠ baseT b := fun b hb h => hn b hb (by simpa using h)
    cases hp : parseS t with
    | some s =>
      obtain ⟨a1, a2, a3⟩ := parseS_iff.1 hp
      exact parseA_some ⟨argV_int.2 ⟨s, rfl, a1, rfl⟩, fun h hm => by rw [List.mem_singleton.1 hm]; exact a2, a3⟩
    | none =>
      refine parseA_none fun a ha => ?_
      obtain ⟨h1, h2, h3⟩ := ha
      obtain ⟨p, hs, b2⟩ := a
      cases p with
      | true =>
        obtain ⟨a1, a2, a3⟩ := argV_list.1 h1
        have h4 := cuts_fmt (hs := hs) (b := b2) true a1 a3
        rw [show (if true = true then ([] : List UInt8) else [32]) ++ (headsT hs ++ baseT b2) = t from h3] at h4
        exact hn' b2 a3 (by rw [h4])
      | false =>
        obtain ⟨k, rfl, hk, hb2⟩ := argV_int.1 h1
        have h3' : fmtS k = t := h3
        rw [parseS_iff.2 ⟨hk, h2 k List.mem_cons_self, h3'⟩] at hp
        cases hp
end ArgM
end Go.Proofs.YtiilopfhlmeaoaaGreatDoor
