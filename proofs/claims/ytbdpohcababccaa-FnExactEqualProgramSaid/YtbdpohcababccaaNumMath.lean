import Derived.Lib.ItoaNum
import Derived.Lib.Atoi
import Derived.Lib.AtoiTie
import Derived.Lib.AtoiAll
/-
  Plain mathematics of reading a decimal numeral: 'rd lo hi l': the integer from lo to hi whose numeral is l; 'l1r': how the model reads it. Imports nothing of the program.
-/
namespace Go.Proofs.Ytbdpohcababccaa
namespace NumM
open Go.Lib

theorem decFrom_append (b : UInt8) : ∀ (l : List UInt8) (acc : Nat), decFrom acc (l ++ [b]) = (decFrom acc l).bind fun n => (digitVal b).map fun d => n * 10 + d
  | [], acc => by
    simp only [List.nil_append, decFrom, Option.bind_some]
    cases digitVal b <;> rfl
  | a :: t, acc => by
    simp only [List.cons_append, decFrom]
    cases ha : digitVal a with
    | none => rfl
    | some d => exact decFrom_append b t _

theorem digitVal_of (k : Nat) (h : k < 10) : digitVal (UInt8.ofNat (48 + k)) = some k := by
  unfold digitVal
  have e : (UInt8.ofNat (48 + k)).toNat = 48 + k := by rw [UInt8.toNat_ofNat']; omega
  rw [e, if_pos (by omega)]
  congr 1; omega

theorem decFrom_decDigits (u : Nat) : decFrom 0 (decDigits u) = some u := by
  induction u using Nat.strongRecOn with
  | _ u ih =>
    rw [decDigits]
    by_cases h : u < 10
    · rw [dif_pos h]
      simp only [decFrom, digitVal_of u h]
      simp
    · rw [dif_neg h, decFrom_append, ih (u / 10) (by omega), Option.bind_some, digitVal_of _ (by omega)]
      simp only [Option.map_some, Option.some.injEq]
      omega

theorem decDigits_ne (u : Nat) : decDigits u ≠ [] := by
  intro h
  have := decDigits_length u
  rw [h] at this
  have := nDigits_pos u
  simp at *
  omega

theorem decDigits_head (u : Nat) : ∃ b r, decDigits u = b :: r ∧ 48 ≤ b.toNat ∧ b.toNat ≤ 57 := by
  cases h : decDigits u with
  | nil => exact absurd h (decDigits_ne u)
  | cons b r =>
    refine ⟨b, r, rfl, ?_⟩
    have h1 := decFrom_decDigits u
    obtain ⟨d, hd⟩ := digit_of_decFrom _ _ _ h1 0 b (by rw [h]; rfl)
    have := digitVal_eq hd
    exact ⟨this.1, this.2.1⟩

theorem itoa_neg' {n : Int} (h : n < 0) : itoa n = 45 :: decDigits n.natAbs := by rw [itoa, if_pos h]
theorem itoa_nn {n : Int} (h : ¬ n < 0) : itoa n = decDigits n.toNat := by rw [itoa, if_neg h]

theorem atoi_itoa (n : Int) : atoi (itoa n) = some n := by
  by_cases h : n < 0
  · rw [itoa_neg' h]
    simp only [atoi, beq_self_eq_true, if_true, decNat]
    rw [if_neg (by simpa using decDigits_ne _), decFrom_decDigits]
    simp only [Option.map_some, Option.some.injEq]
    omega
  · rw [itoa_nn h]
    obtain ⟨b, r, he, h1, h2⟩ := decDigits_head n.toNat
    have hd := decFrom_decDigits n.toNat
    rw [he] at hd ⊢
    have n45 : (b == 45) = false := by
      rw [beq_eq_false_iff_ne]; rintro rfl; simp at h1
    have n43 : (b == 43) = false := by
      rw [beq_eq_false_iff_ne]; rintro rfl; simp at h1
    simp only [atoi, n45, n43, Bool.false_eq_true, if_false, decNat, List.isEmpty_cons]
    rw [hd]
    simp only [Option.map_some, Option.some.injEq]
    omega

theorem itoa_inj {m n : Int} (h : itoa m = itoa n) : m = n := by
  have h1 := atoi_itoa m
  rw [h, atoi_itoa n] at h1
  exact (Option.some.inj h1).symm

/-- The integer from lo to hi whose decimal numeral is l. -/
def rd (lo hi : Int) (l : List UInt8) : Option Int :=
  match atoi l with
  | some n => if lo ≤ n ∧ n ≤ hi ∧ itoa n = l then some n else none
  | none => none

theorem rd_some {lo hi : Int} {l : List UInt8} {n : Int} : rd lo hi l = some n ↔ lo ≤ n ∧ n ≤ hi ∧ itoa n = l := by
  constructor
  · intro h
    unfold rd at h
    split at h
    · split at h
      · rename_i hc
        obtain rfl := Option.some.inj h
        exact hc
      · cases h
    · cases h
  · rintro ⟨h1, h2, rfl⟩
    unfold rd
    rw [atoi_itoa]
    simp [h1, h2]

theorem rd_none {lo hi : Int} {l : List UInt8} : rd lo hi l = none ↔ ∀ n, lo ≤ n → n ≤ hi → itoa n ≠ l := by
  constructor
  · intro h n h1 h2 h3
    rw [rd_some.2 ⟨h1, h2, h3⟩] at h
    cases h
  · intro h
    cases hr : rd lo hi l with
    | none => rfl
    | some n =>
      obtain ⟨h1, h2, h3⟩ := rd_some.1 hr
      exact absurd h3 (h n h1 h2)

theorem pow10_lt_of_digits : ∀ (k u : Nat), u < 10 ^ (k + 1) → nDigits u ≤ k + 1
  | 0, u, h => by rw [nDigits_small (by simpa using h)]; exact Nat.le_refl _
  | k + 1, u, h => by
    by_cases h10 : u < 10
    · rw [nDigits_small h10]; omega
    · rw [nDigits_big h10]
      have := pow10_lt_of_digits k (u / 10) (by rw [Nat.pow_succ] at h; omega)
      omega

/-- The numeral without its sign. -/
def body (l : List UInt8) : List UInt8 := if l.head? = some 45 then l.tail else l

theorem body_itoa (n : Int) : body (itoa n) = decDigits n.natAbs ∧ ((itoa n).head? = some 45 ↔ n < 0) := by
  by_cases h : n < 0
  · rw [itoa_neg' h]
    simp [body, h]
  · rw [itoa_nn h]
    obtain ⟨b, r, he, h1, _⟩ := decDigits_head n.toNat
    have hb : ¬ (decDigits n.toNat).head? = some 45 := by
      rw [he]
      simp only [List.head?_cons, Option.some.injEq]
      rintro rfl
      simp at h1
    refine ⟨?_, by simp [hb, h]⟩
    rw [body, if_neg hb]
    congr 1; omega

/-- What the model makes of the digits: the number with its sign. -/
def signed (l : List UInt8) (v : Nat) : Int := if l.head? = some 45 then -(v : Int) else v

/-- How the model reads: the digits one by one, then the numeral of what came out held against the text. -/
def l1r (most : Nat) (l : List UInt8) : Option Int :=
  if (body l).length < 1 ∨ most < (body l).length then none
  else match decFrom 0 (body l) with
    | none => none
    | some v => if itoa (signed l v) = l then some (signed l v) else none

theorem l1r_eq (k : Nat) (l : List UInt8) : l1r (k + 1) l = rd (-(10 ^ (k + 1) : Nat) + 1) ((10 ^ (k + 1) : Nat) - 1) l := by
  cases hr : rd (-(10 ^ (k + 1) : Nat) + 1) ((10 ^ (k + 1) : Nat) - 1) l with
  | some n =>
    obtain ⟨h1, h2, rfl⟩ := rd_some.1 hr
    obtain ⟨hb, hs⟩ := body_itoa n
    have hlen := pow10_lt_of_digits k n.natAbs (by omega)
    have hp := nDigits_pos n.natAbs
    have hsg : signed (itoa n) n.natAbs = n := by
      unfold signed
      split
      · rename_i h; have := hs.1 h; omega
      · rename_i h; have : ¬ n < 0 := fun hh => h (hs.2 hh); omega
    unfold l1r
    rw [hb, decDigits_length, if_neg (by omega), decFrom_decDigits]
    simp only [hsg, if_true]
  | none =>
    rw [rd_none] at hr
    unfold l1r
    split
    · rfl
    · rename_i hl
      cases hd : decFrom 0 (body l) with
      | none => rfl
      | some v =>
        simp only
        split
        · rename_i he
          exfalso
          have hlt := decFrom_lt _ _ _ hd
          have hpow : 10 ^ (body l).length ≤ 10 ^ (k + 1) := Nat.pow_le_pow_right (by decide) (by omega)
          refine hr (signed l v) ?_ ?_ he
          · unfold signed; split <;> omega
          · unfold signed; split <;> omega
        · rfl

/-- Every character a digit or not: what the model's loop knows after k of them. -/
theorem decFrom_stop {l : List UInt8} {k : Nat} {b : UInt8} (hb : l[k]? = some b) (hd : digitVal b = none) : decFrom 0 l = none := by
  cases h : decFrom 0 l with
  | none => rfl
  | some n =>
    obtain ⟨d, hd'⟩ := digit_of_decFrom _ _ _ h k b hb
    rw [hd] at hd'
    cases hd'

/-- The library's reader at a short text. -/
theorem atoiAll_itoa (n : Int) (h0 : -1000000000000 < n) (h1 : n < 1000000000000) : atoiAll (itoa n) = .ok n := by
  have hl : (itoa n).length ≤ 18 := by
    obtain ⟨hb, hs⟩ := body_itoa n
    have h := pow10_lt_of_digits 11 n.natAbs (by omega)
    by_cases hn : n < 0
    · rw [itoa_neg' hn, List.length_cons, decDigits_length]; omega
    · rw [itoa_nn hn, decDigits_length]
      have : n.toNat = n.natAbs := by omega
      rw [this]; omega
  rw [atoiAll_short _ hl, atoi_itoa]
  rfl

theorem rd_of_ok {lo hi : Int} (h0 : -1000000000000 < lo) (h1 : hi < 1000000000000) {l : List UInt8} {v : Int} (h : atoiAll l = .ok v) : rd lo hi l = if lo ≤ v ∧ v ≤ hi ∧ itoa v = l then some v else none := by
  split
  · rename_i hc; exact rd_some.2 hc
  · rename_i hc
    refine rd_none.2 fun n a b e => hc ?_
    subst e
    rw [atoiAll_itoa n (by omega) (by omega)] at h
    obtain rfl : n = v := by simpa using h
    exact ⟨a, b, rfl⟩

theorem rd_of_not {lo hi : Int} (h0 : -1000000000000 < lo) (h1 : hi < 1000000000000) {l : List UInt8} (h : ∀ v, atoiAll l ≠ .ok v) : rd lo hi l = none :=
  rd_none.2 fun n a b e => h n (by subst e; exact atoiAll_itoa n (by omega) (by omega))
end NumM
end Go.Proofs.Ytbdpohcababccaa
