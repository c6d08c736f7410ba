import Derived.Test.YtmkelfjnjnjgbaaFarkMath2
/-
  Elimination, reckoned: derived rows, their combinations, the search for a certificate.
-/
namespace Go.Proofs.Ytmkelfjnjnjgbaa
namespace ElimM
open LinM ArithM FarkM

/-- A derived row: its expression, its multipliers. -/
abbrev DR := (Int × List Int) × List Int
/-- The coefficient of a variable. -/
def cf (r : DR) (i : Nat) : Int := r.1.2.getD i 0
/-- One place of a combination of multipliers. -/
def scl1 (a b x y : Int) : Option Int := (mulL x a).bind fun p => (mulL y b).bind fun q => addL p q
def scl (a b : Int) : List Int → List Int → Option (List Int)
  | x :: xs, y :: ys => (scl1 a b x y).bind fun v => (scl a b xs ys).map (v :: ·)
  | _, _ => some []
def mx1 (g : Int) : Int := if 1 < g then g else 1
def gq (x y : DR) (i : Nat) : Int := mx1 (gcdL (cf x i) (-cf y i))
/-- The combination in which a variable is missing. -/
def joinD (x y : DR) (i : Nat) : Option DR :=
  (addS 0 (List.replicate x.1.2.length 0) ((-cf y i).tdiv (gq x y i)) x.1.1 x.1.2).bind fun f =>
    (addS f.1 f.2 ((cf x i).tdiv (gq x y i)) y.1.1 y.1.2).bind fun l =>
      (scl ((-cf y i).tdiv (gq x y i)) ((cf x i).tdiv (gq x y i)) x.2 y.2).map fun m => (l, m)
/-- A row's combinations with all that come behind the sign. -/
def pairs (i : Nat) (x : DR) (L : List DR) : List DR := L.filterMap fun y => if cf y i < 0 then joinD x y i else none
def zeros (i : Nat) (L : List DR) : List DR := L.filter fun x => cf x i == 0
def combs (i : Nat) (L M : List DR) : List DR := L.flatMap fun x => if 0 < cf x i then pairs i x M else []
def elimD (L : List DR) (i : Nat) : List DR := zeros i L ++ combs i L L
def elimN (L : List DR) : Nat → Option (List DR)
  | 0 => some L
  | k + 1 => (elimN L k).bind fun M => if (elimD M k).length ≤ 60 then some (elimD M k) else none
def unit (m k : Nat) : List Int := (List.replicate (m + 1) 0).set k 1
/-- The rows of the system, with their multipliers. -/
def rowsD (m : Nat) (xs : List (Int × List Int)) : List DR := xs.mapIdx fun k x => (x, unit m k)
def negT (N : Int) (t : Int × List Int) : Option (Int × List Int) := addS (constL (-1) N).1 (constL (-1) N).2 (-1) t.1 t.2
def startD (N : Int) (xs : List (Int × List Int)) (t : Int × List Int) : Option (List DR) := (negT N t).map fun g => rowsD xs.length xs ++ [(g, unit xs.length xs.length)]
def certD (m : Nat) (r : DR) : Int × List Int := (r.2.getD m 0, r.2.take m)
def pickD (N : Int) (xs : List (Int × List Int)) (t : Int × List Int) (M : List DR) : Option (Int × List Int) :=
  (M.find? fun r => decide (r.1.1 < 0)).bind fun r => if checkF N xs t (certD xs.length r).1 (certD xs.length r).2 = true then some (certD xs.length r) else none
def findF (N : Int) (xs : List (Int × List Int)) (t : Int × List Int) : Option (Int × List Int) :=
  if SysS.sysV N xs = true ∧ vldB t.1 t.2 N = true then (startD N xs t).bind fun L => (elimN L N.toNat).bind fun M => pickD N xs t M else none

/-- What is found is accepted. -/
theorem find_check {N : Int} {xs : List (Int × List Int)} {t f : Int × List Int} (h : findF N xs t = some f) : checkF N xs t f.1 f.2 = true := by
  unfold findF at h
  split at h
  · obtain ⟨L, _, h1⟩ := Option.bind_eq_some_iff.1 h
    obtain ⟨M, _, h2⟩ := Option.bind_eq_some_iff.1 h1
    unfold pickD at h2
    obtain ⟨r, _, h3⟩ := Option.bind_eq_some_iff.1 h2
    split at h3
    · rename_i hc
      injection h3 with h3
      rw [← h3]
      exact hc
    · cases h3
  · cases h

/-- What every derived row is. -/
def okD (N : Int) (m : Nat) (r : DR) : Prop := vldB r.1.1 r.1.2 N = true ∧ r.2.length = m
theorem addS_vld {z k u : Int} {zs us : List Int} {b : Int × List Int} (h : addS z zs k u us = some b) : vldB b.1 b.2 zs.length = true := by
  unfold addS at h
  split at h
  · rename_i hv
    have h1 := vldB_iff.1 hv.1
    have h2 := vldB_iff.1 hv.2
    obtain ⟨c, hc, h3⟩ := Option.bind_eq_some_iff.1 h
    obtain ⟨cs, hcs, rfl⟩ := Option.map_eq_some_iff.1 h3
    have hl := addPs_len k zs us cs (by omega) hcs
    have hi := (addPs_iff k zs us cs (by omega)).1 hcs
    refine vldB_iff.2 ⟨h1.1, by simpa using congrArg (fun n : Nat => (n : Int)) hl, (addP_some hc).2.1, fun x hx => ?_⟩
    obtain ⟨j, hj, rfl⟩ := List.getElem_of_mem hx
    have hj := (show j < cs.length from hj)
    have h4 := hi.2 j (zs[j]'(by omega)) (us[j]'(by omega)) (List.getElem?_eq_getElem _) (List.getElem?_eq_getElem _)
    rw [List.getElem?_eq_getElem hj] at h4
    exact (addP_some h4).2.1
  · cases h
theorem scl_len {a b : Int} : ∀ {xs ys r : List Int}, xs.length = ys.length → scl a b xs ys = some r → r.length = xs.length
  | [], [], r, _, h => by simp [scl] at h; subst h; rfl
  | [], _ :: _, _, hl, _ => by simp at hl
  | _ :: _, [], _, hl, _ => by simp at hl
  | x :: xs, y :: ys, r, hl, h => by
    unfold scl at h
    obtain ⟨v, _, h1⟩ := Option.bind_eq_some_iff.1 h
    obtain ⟨r', h2, rfl⟩ := Option.map_eq_some_iff.1 h1
    simp [scl_len (by simpa using hl) h2]
theorem join_ok {N : Int} {m i : Nat} {x y r : DR} (hx : okD N m x) (hy : okD N m y) (h : joinD x y i = some r) : okD N m r := by
  unfold joinD at h
  obtain ⟨f, h1, h2⟩ := Option.bind_eq_some_iff.1 h
  obtain ⟨l, h3, h4⟩ := Option.bind_eq_some_iff.1 h2
  obtain ⟨s, h5, rfl⟩ := Option.map_eq_some_iff.1 h4
  have e1 := addS_vld h1
  have e2 := addS_vld h3
  have l1 := (vldB_iff.1 hx.1).2.1
  have lf := (vldB_iff.1 e1).2.1
  rw [List.length_replicate] at e1 lf
  refine ⟨?_, by rw [scl_len (by rw [hx.2, hy.2]) h5, hx.2]⟩
  rw [show (f.2.length : Int) = N by omega] at e2
  exact e2
theorem elim_ok {N : Int} {m i : Nat} {L : List DR} (h : ∀ r ∈ L, okD N m r) : ∀ r ∈ elimD L i, okD N m r := fun r hr => by
  rcases List.mem_append.1 hr with hr | hr
  · exact h r (List.mem_filter.1 hr).1
  · obtain ⟨x, hx, hr⟩ := List.mem_flatMap.1 hr
    split at hr
    · obtain ⟨y, hy, hj⟩ := List.mem_filterMap.1 hr
      split at hj
      · exact join_ok (h x hx) (h y hy) hj
      · cases hj
    · cases hr
theorem elimN_ok {N : Int} {m : Nat} {L : List DR} (h : ∀ r ∈ L, okD N m r) : ∀ {k : Nat} {M : List DR}, elimN L k = some M → ∀ r ∈ M, okD N m r
  | 0, M, hM => by injection hM with hM; subst hM; exact h
  | k + 1, M, hM => by
    unfold elimN at hM
    obtain ⟨M', h1, h2⟩ := Option.bind_eq_some_iff.1 hM
    split at h2
    · injection h2 with h2; subst h2; exact elim_ok (elimN_ok h h1)
    · cases h2
theorem pairs_len (i : Nat) (x : DR) (L : List DR) : (pairs i x L).length ≤ L.length := List.length_filterMap_le _ _
theorem combs_len (i : Nat) : ∀ (L M : List DR), (combs i L M).length ≤ L.length * M.length
  | [], M => by simp [combs]
  | x :: L, M => by
    have h1 := combs_len i L M
    have h2 := pairs_len i x M
    unfold combs at h1 ⊢
    rw [List.flatMap_cons, List.length_append, List.length_cons, Nat.succ_mul]
    have h3 : (if 0 < cf x i then pairs i x M else []).length ≤ M.length := by
      split
      · exact h2
      · exact Nat.zero_le _
    omega
theorem elimN_len {L : List DR} (h : L.length ≤ 60) : ∀ {k : Nat} {M : List DR}, elimN L k = some M → M.length ≤ 60
  | 0, M, hM => by injection hM with hM; subst hM; exact h
  | k + 1, M, hM => by
    unfold elimN at hM
    obtain ⟨M', _, h2⟩ := Option.bind_eq_some_iff.1 hM
    split at h2
    · injection h2 with h2; subst h2; assumption
    · cases h2
/-- The search so far. -/
theorem elimN_mono {L : List DR} {k n : Nat} (hk : k ≤ n) (h : elimN L k = none) : elimN L n = none := by
  induction n with
  | zero => rw [show k = 0 by omega] at h; exact h
  | succ n ih =>
    rcases Nat.lt_or_ge k (n + 1) with h1 | h1
    · unfold elimN; rw [ih (by omega)]; rfl
    · rw [show n + 1 = k by omega]; exact h
theorem elimN_next {L M : List DR} {k : Nat} (h : elimN L k = some M) : elimN L (k + 1) = if (elimD M k).length ≤ 60 then some (elimD M k) else none := by
  unfold elimN
  rw [h]
  rfl
theorem filter_take {α : Type} (p : α → Bool) {L : List α} {k : Nat} (hk : k < L.length) : (L.take (k + 1)).filter p = (L.take k).filter p ++ (if p L[k] = true then [L[k]] else []) := by
  rw [List.take_add_one, List.getElem?_eq_getElem hk, List.filter_append]
  simp [List.filter_cons]
theorem flatMap_take {α β : Type} (f : α → List β) {L : List α} {k : Nat} (hk : k < L.length) : (L.take (k + 1)).flatMap f = (L.take k).flatMap f ++ f L[k] := by
  rw [List.take_add_one, List.getElem?_eq_getElem hk, List.flatMap_append]
  simp
theorem filterMap_take {α β : Type} (f : α → Option β) {L : List α} {k : Nat} (hk : k < L.length) : (L.take (k + 1)).filterMap f = (L.take k).filterMap f ++ (f L[k]).toList := by
  rw [List.take_add_one, List.getElem?_eq_getElem hk, List.filterMap_append]
  rw [List.append_cancel_left_eq]
  cases h : f L[k] <;> simp [h]
theorem cf_get {r : DR} {i : Nat} (h : i < r.1.2.length) : cf r i = r.1.2[i] := by unfold cf; rw [List.getD_eq_getElem?_getD, List.getElem?_eq_getElem h]; rfl
theorem cf_range {N : Int} {m i : Nat} {r : DR} (h : okD N m r) : -1000000000 ≤ cf r i ∧ cf r i ≤ 1000000000 := by
  rcases Nat.lt_or_ge i r.1.2.length with hi | hi
  · rw [cf_get hi]
    exact inC_iff.1 ((vldB_iff.1 h.1).2.2.2 _ (List.getElem_mem hi))
  · unfold cf
    rw [List.getD_eq_getElem?_getD, List.getElem?_eq_none hi]
    simp
end ElimM
end Go.Proofs.Ytmkelfjnjnjgbaa

/-
  Elimination, reckoned: how long a certificate is.
-/
namespace Go.Proofs.Ytmkelfjnjnjgbaa
open Go.RowKit
namespace ElimM
theorem find_small (N : Int) (xs : List (Int × List Int)) (t : Int × List Int) : ((findF N xs t).getD (0, [])).2.length ≤ 20 := by
  cases h : findF N xs t with
  | none => simp
  | some f =>
    have hc := find_check h
    unfold findF at h
    split at h
    · rename_i hs
      obtain ⟨L, _, h1⟩ := Option.bind_eq_some_iff.1 h
      obtain ⟨M, _, h2⟩ := Option.bind_eq_some_iff.1 h1
      unfold pickD at h2
      obtain ⟨r, _, h3⟩ := Option.bind_eq_some_iff.1 h2
      split at h3
      · injection h3 with h3
        subst h3
        have h4 := hs.1
        unfold SysS.sysV at h4
        simp only [Bool.and_eq_true, decide_eq_true_eq] at h4
        simp only [Option.getD_some, certD, List.length_take]
        omega
      · cases h3
    · cases h
end ElimM
end Go.Proofs.Ytmkelfjnjnjgbaa

/-
  Elimination, reckoned: is something entailed, is a system empty?
-/
namespace Go.Proofs.Ytmkelfjnjnjgbaa
open Go.RowKit
namespace ElimM
/-- Is it entailed? -/
def entB (N : Int) (xs : List (Int × List Int)) (t : Int × List Int) : Bool := (findF N xs t).isSome
/-- Is the system seen to be empty? -/
def empB (N : Int) (xs : List (Int × List Int)) : Bool := entB N xs (LinM.constL (-1) N)
end ElimM
end Go.Proofs.Ytmkelfjnjnjgbaa
