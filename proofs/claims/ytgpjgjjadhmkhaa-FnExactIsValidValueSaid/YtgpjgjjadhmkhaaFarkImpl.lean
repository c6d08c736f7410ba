import Derived.Test.YtgpjgjjadhmkhaaSysSpec
import Derived.Test.YtgpjgjjadhmkhaaLawKit4
import Derived.Test.YtgpjgjjadhmkhaaSysImpl2
/-
  Certificates of implication, reckoned: the combination of rows, the check, and why it is sound.
-/
namespace Go.Proofs.Ytgpjgjjadhmkhaa
namespace FarkM
open LinM ArithM

/-- a and the rows times their multipliers. -/
def comb : Int × List Int → List Int → List (Int × List Int) → Option (Int × List Int)
  | a, m :: ms, x :: xs => if m < 0 then none else (addS a.1 a.2 m x.1 x.2).bind fun b => comb b ms xs
  | a, _, _ => some a
theorem comb_nil (a : Int × List Int) (xs : List (Int × List Int)) : comb a [] xs = some a := by cases xs <;> rfl
def combR (N : Int) (xs : List (Int × List Int)) (ms : List Int) : Option (Int × List Int) := if SysS.sysV N xs = true ∧ ms.length = xs.length then comb (constL 0 N) ms xs else none
/-- All coefficients are 0. -/
def isC (zs : List Int) : Bool := zs.all (fun x => x == 0)
/-- The check, behind the combination s. -/
def checkB (N : Int) (t : Int × List Int) (sc : Int) (s : Int × List Int) : Bool :=
  (addS t.1 t.2 1 (constL 1 N).1 (constL 1 N).2).isSome &&
    ((addS s.1 s.2 (0 - sc) ((addS t.1 t.2 1 (constL 1 N).1 (constL 1 N).2).getD (0, [])).1 ((addS t.1 t.2 1 (constL 1 N).1 (constL 1 N).2).getD (0, [])).2).isSome &&
      (isC ((addS s.1 s.2 (0 - sc) ((addS t.1 t.2 1 (constL 1 N).1 (constL 1 N).2).getD (0, [])).1 ((addS t.1 t.2 1 (constL 1 N).1 (constL 1 N).2).getD (0, [])).2).getD (0, [])).2 &&
        decide (((addS s.1 s.2 (0 - sc) ((addS t.1 t.2 1 (constL 1 N).1 (constL 1 N).2).getD (0, [])).1 ((addS t.1 t.2 1 (constL 1 N).1 (constL 1 N).2).getD (0, [])).2).getD (0, [])).1 < 0)))
def scB (sc : Int) : Bool := decide (0 ≤ sc) && decide (sc ≤ 1000000000)
def checkF (N : Int) (xs : List (Int × List Int)) (t : Int × List Int) (sc : Int) (ms : List Int) : Bool :=
  (combR N xs ms).isSome && (vldB t.1 t.2 N && (scB sc && checkB N t sc ((combR N xs ms).getD (0, []))))
def checkE (N : Int) (xs : List (Int × List Int)) (ms : List Int) : Bool :=
  (combR N xs ms).isSome && (isC ((combR N xs ms).getD (0, [])).2 && decide (((combR N xs ms).getD (0, [])).1 < 0))

/-- The value. -/
def ev (x : Int × List Int) (vs : List Int) : Int := x.1 + dot x.2 vs
theorem evalL_ev {z : Int} {zs vs : List Int} {y : Int} (h : evalL z zs vs = some y) : y = ev (z, zs) vs := by
  unfold evalL at h
  split at h
  · injection h with h; exact h.symm
  · cases h
theorem evalL_some {z : Int} {zs vs : List Int} (h : vldB z zs vs.length = true) (hf : vs.all inF = true) : evalL z zs vs = some (ev (z, zs) vs) := by
  unfold evalL; rw [if_pos ⟨h, hf⟩]; rfl
/-- The value of a scaled sum. -/
theorem addS_ev {a x b : Int × List Int} {k : Int} {vs : List Int} (h : addS a.1 a.2 k x.1 x.2 = some b) (hl : a.2.length = vs.length) (hf : vs.all inF = true) : ev b vs = ev a vs + k * ev x vs ∧ b.2.length = vs.length ∧ x.2.length = vs.length ∧ vldB b.1 b.2 vs.length = true := by
  obtain ⟨zc, cs⟩ := b
  obtain ⟨p, q, t, h1, h2, h3, h4, _⟩ := addS_eval h hl.symm hf
  have e1 := evalL_ev h1
  have e2 := evalL_ev h2
  have e3 := evalL_ev h3
  have v3 : vldB zc cs vs.length = true := by
    unfold evalL at h3
    split at h3
    · rename_i hv; exact hv.1
    · cases h3
  have v2 : vldB x.1 x.2 vs.length = true := by
    unfold evalL at h2
    split at h2
    · rename_i hv; exact hv.1
    · cases h2
  have l3 := (vldB_iff.1 v3).2.1
  have l2 := (vldB_iff.1 v2).2.1
  refine ⟨?_, show cs.length = vs.length by omega, by omega, v3⟩
  rw [show ((x.1, x.2) : Int × List Int) = x from rfl] at e2
  rw [← e3, ← e2, show ev a vs = p from e1.symm]
  exact h4
theorem comb_ev : ∀ {ms : List Int} {xs : List (Int × List Int)} {a b : Int × List Int} {vs : List Int}, comb a ms xs = some b → a.2.length = vs.length → vs.all inF = true → (∀ x ∈ xs, 0 ≤ ev x vs) → ev a vs ≤ ev b vs ∧ b.2.length = vs.length
  | [], xs, a, b, vs, h, hl, _, _ => by
    rw [comb_nil] at h
    injection h with h
    subst h
    exact ⟨Int.le_refl _, hl⟩
  | m :: ms, [], a, b, vs, h, hl, _, _ => by
    injection h with h
    subst h
    exact ⟨Int.le_refl _, hl⟩
  | m :: ms, x :: xs, a, b, vs, h, hl, hf, hx => by
    unfold comb at h
    split at h
    · cases h
    · rename_i hm
      obtain ⟨c, hc, hb⟩ := Option.bind_eq_some_iff.1 h
      obtain ⟨e1, e2, _⟩ := addS_ev hc hl hf
      obtain ⟨e3, e4⟩ := comb_ev hb e2 hf (fun y hy => hx y (List.mem_cons_of_mem _ hy))
      have h1 := hx x List.mem_cons_self
      have h2 : 0 ≤ m * ev x vs := Int.mul_nonneg (by omega) h1
      exact ⟨by omega, e4⟩
theorem dot_zeros : ∀ (n : Nat) (vs : List Int), dot (List.replicate n 0) vs = 0
  | 0, vs => by simp [dot]
  | n + 1, [] => by simp [dot, List.replicate_succ]
  | n + 1, v :: vs => by simp [dot, List.replicate_succ, dot_zeros n vs]
theorem dot_isC : ∀ {zs vs : List Int}, isC zs = true → dot zs vs = 0
  | [], vs, _ => by simp [dot]
  | z :: zs, [], _ => by simp [dot]
  | z :: zs, v :: vs, h => by
    simp only [isC, List.all_cons, Bool.and_eq_true, beq_iff_eq] at h
    obtain ⟨rfl, h⟩ := h
    have := dot_isC (zs := zs) (vs := vs) h
    simp [dot, this]
theorem const_ev {k N : Int} {vs : List Int} (h : cntB N = true) (hk : inC k = true) (hl : (vs.length : Int) = N) : ev (constL k N) vs = k ∧ (constL k N).2.length = vs.length := by
  unfold constL ev
  rw [if_pos ⟨h, hk⟩]
  refine ⟨by rw [dot_zeros]; simp, ?_⟩
  simp
  omega

/-- What a solution of the system is. -/
theorem sat_rows {N : Int} {xs : List (Int × List Int)} {vs : List Int} (h : SysS.satB N xs vs = true) : vs.all inF = true ∧ (vs.length : Int) = N ∧ cntB N = true ∧ ∀ x ∈ xs, 0 ≤ ev x vs := by
  unfold SysS.satB SysS.sysV at h
  simp only [Bool.and_eq_true, List.all_eq_true, decide_eq_true_eq] at h
  obtain ⟨h1, ⟨⟨h2, h3, _⟩, h4⟩, h5⟩ := h
  have hf : vs.all inF = true := by rw [List.all_eq_true]; exact h1
  refine ⟨hf, h4, h3, fun x hx => ?_⟩
  have hv := h2 x hx
  rw [← h4] at hv
  have h6 := h5 x hx
  rw [evalL_some hv hf] at h6
  exact h6
theorem combR_ev {N : Int} {xs : List (Int × List Int)} {ms : List Int} {s : Int × List Int} {vs : List Int} (h : combR N xs ms = some s) (hs : SysS.satB N xs vs = true) : 0 ≤ ev s vs ∧ s.2.length = vs.length := by
  obtain ⟨hf, hl, hc, hx⟩ := sat_rows hs
  unfold combR at h
  split at h
  · obtain ⟨e1, e2⟩ := const_ev (k := 0) hc rfl hl
    obtain ⟨h1, h2⟩ := comb_ev h e2 hf hx
    exact ⟨by omega, h2⟩
  · cases h
/-- Every solution satisfies the target of an accepted certificate. -/
theorem check_sound {N : Int} {xs : List (Int × List Int)} {t : Int × List Int} {sc : Int} {ms vs : List Int} (h : checkF N xs t sc ms = true) (hs : SysS.satB N xs vs = true) : 0 ≤ (evalL t.1 t.2 vs).getD 0 := by
  obtain ⟨hf, hl, hc, hx⟩ := sat_rows hs
  unfold checkF checkB scB at h
  simp only [Bool.and_eq_true, decide_eq_true_eq] at h
  obtain ⟨h1, h2, ⟨h3, h4⟩, h5, h6, h7, h8⟩ := h
  obtain ⟨s, hcs⟩ := Option.isSome_iff_exists.1 h1
  obtain ⟨m, hm⟩ := Option.isSome_iff_exists.1 h5
  rw [hcs, hm, Option.getD_some] at h6 h7 h8
  simp only [Option.getD_some] at h6 h7 h8
  obtain ⟨o, ho⟩ := Option.isSome_iff_exists.1 h6
  rw [ho, Option.getD_some] at h7 h8
  obtain ⟨e1, l1⟩ := combR_ev hcs hs
  rw [← hl] at h2
  have lt := (vldB_iff.1 h2).2.1
  obtain ⟨c1, c2⟩ := const_ev (k := 1) hc (by decide) hl
  obtain ⟨e2, l2, _, _⟩ := addS_ev (a := t) (x := constL 1 N) hm (by omega) hf
  obtain ⟨e3, l3, _, _⟩ := addS_ev (a := s) (x := m) ho l1 hf
  have e4 : ev o vs = o.1 := by unfold ev; rw [dot_isC h7]; omega
  rw [evalL_some h2 hf, Option.getD_some]
  rw [c1] at e2
  have e5 : ev (t.1, t.2) vs = ev t vs := rfl
  rw [e5]
  rcases Int.lt_or_le (ev t vs) 0 with hn | hn
  · have h9 : 0 ≤ sc * (0 - (ev t vs + 1)) := Int.mul_nonneg h3 (by omega)
    rw [Int.mul_sub] at h9
    rw [show ev m vs = ev t vs + 1 by omega, Int.sub_mul] at e3
    omega
  · exact hn
theorem empty_sound {N : Int} {xs : List (Int × List Int)} {ms vs : List Int} (h : checkE N xs ms = true) : SysS.satB N xs vs = false := by
  cases hs : SysS.satB N xs vs with
  | false => rfl
  | true =>
    exfalso
    unfold checkE at h
    simp only [Bool.and_eq_true, decide_eq_true_eq] at h
    obtain ⟨h1, h2, h3⟩ := h
    obtain ⟨s, hcs⟩ := Option.isSome_iff_exists.1 h1
    rw [hcs, Option.getD_some] at h2 h3
    obtain ⟨e1, _⟩ := combR_ev hcs hs
    have e4 : ev s vs = s.1 := by unfold ev; rw [dot_isC h2]; omega
    omega
theorem combR_value {N : Int} {xs : List (Int × List Int)} {ms : List Int} {vs : List Int} (h : (combR N xs ms).isSome = true) (hs : SysS.satB N xs vs = true) : 0 ≤ (evalL ((combR N xs ms).getD (0, [])).1 ((combR N xs ms).getD (0, [])).2 vs).getD 0 := by
  obtain ⟨s, hcs⟩ := Option.isSome_iff_exists.1 h
  rw [hcs, Option.getD_some]
  obtain ⟨e1, l1⟩ := combR_ev hcs hs
  cases he : evalL s.1 s.2 vs with
  | none => exact Int.le_refl _
  | some y => rw [evalL_ev he]; exact e1
theorem comb_cons (a : Int × List Int) (m : Int) (ms : List Int) (x : Int × List Int) (xs : List (Int × List Int)) : comb a (m :: ms) (x :: xs) = if m < 0 then none else (addS a.1 a.2 m x.1 x.2).bind fun b => comb b ms xs := rfl
theorem comb_take : ∀ (k : Nat) {ms : List Int} {xs : List (Int × List Int)} {a s : Int × List Int}, k ≤ ms.length → k ≤ xs.length → comb a (ms.take k) (xs.take k) = some s → comb a ms xs = comb s (ms.drop k) (xs.drop k)
  | 0, ms, xs, a, s, _, _, h => by
    rw [List.take_zero, comb_nil] at h
    injection h with h
    subst h
    rfl
  | k + 1, [], xs, a, s, h1, _, _ => by simp at h1
  | k + 1, m :: ms, [], a, s, _, h2, _ => by simp at h2
  | k + 1, m :: ms, x :: xs, a, s, h1, h2, h => by
    rw [List.take_succ_cons, List.take_succ_cons, comb_cons] at h
    rw [List.drop_succ_cons, List.drop_succ_cons, comb_cons]
    split at h
    · cases h
    · rename_i hm
      rw [if_neg hm]
      cases hb : addS a.1 a.2 m x.1 x.2 with
      | none => rw [hb] at h; cases h
      | some b =>
        rw [hb, Option.bind_some] at h
        rw [Option.bind_some]
        exact comb_take k (by simpa using h1) (by simpa using h2) h
theorem comb_take' : ∀ (k : Nat) {ms : List Int} {xs : List (Int × List Int)} {a s : Int × List Int}, k < ms.length → k < xs.length → comb a (ms.take k) (xs.take k) = some s → comb a (ms.take (k + 1)) (xs.take (k + 1)) = comb s ((ms.drop k).take 1) ((xs.drop k).take 1)
  | k, ms, xs, a, s, h1, h2, h => by
    have h3 := comb_take k (ms := ms.take (k + 1)) (xs := xs.take (k + 1)) (a := a) (s := s) (by rw [List.length_take]; omega) (by rw [List.length_take]; omega) (by rw [List.take_take, List.take_take, Nat.min_eq_left (Nat.le_succ k)]; exact h)
    rw [h3, List.drop_take, List.drop_take, Nat.add_sub_cancel_left]
/-- One more row. -/
theorem comb_step {k : Nat} {ms : List Int} {xs : List (Int × List Int)} {a s s' : Int × List Int} (h1 : k < ms.length) (h2 : k < xs.length) (h : comb a (ms.take k) (xs.take k) = some s) (hm : 0 ≤ ms[k]) (hs : addS s.1 s.2 ms[k] xs[k].1 xs[k].2 = some s') : comb a (ms.take (k + 1)) (xs.take (k + 1)) = some s' := by
  rw [comb_take' k h1 h2 h, List.drop_eq_getElem_cons h1, List.drop_eq_getElem_cons h2, List.take_succ_cons, List.take_succ_cons, List.take_zero, comb_cons, if_neg (by omega), hs, Option.bind_some, comb_nil]
theorem comb_stop {k : Nat} {ms : List Int} {xs : List (Int × List Int)} {a s : Int × List Int} (h1 : k < ms.length) (h2 : k < xs.length) (h : comb a (ms.take k) (xs.take k) = some s) (hs : ms[k] < 0 ∨ addS s.1 s.2 ms[k] xs[k].1 xs[k].2 = none) : comb a ms xs = none := by
  rw [comb_take k (Nat.le_of_lt h1) (Nat.le_of_lt h2) h, List.drop_eq_getElem_cons h1, List.drop_eq_getElem_cons h2, comb_cons]
  split
  · rfl
  · rename_i hm
    rcases hs with hs | hs
    · exact absurd hs hm
    · rw [hs]; rfl
theorem addS_inC {a b : Int × List Int} {k : Int} {x : Int × List Int} (h : addS a.1 a.2 k x.1 x.2 = some b) : inC k = true := by
  unfold addS at h
  split at h
  · obtain ⟨c, hc, _⟩ := Option.bind_eq_some_iff.1 h
    exact (addP_some hc).1
  · cases h
theorem comb_bad : ∀ {ms : List Int} {xs : List (Int × List Int)} {a : Int × List Int}, ms.length = xs.length → ms.all scB = false → comb a ms xs = none
  | [], xs, a, _, h => by simp at h
  | m :: ms, [], a, hl, _ => by simp at hl
  | m :: ms, x :: xs, a, hl, h => by
    rw [comb_cons]
    split
    · rfl
    · rename_i hm
      cases hb : addS a.1 a.2 m x.1 x.2 with
      | none => rfl
      | some b =>
        rw [Option.bind_some]
        refine comb_bad (by simpa using hl) ?_
        have hc := inC_iff.1 (addS_inC hb)
        have hs : scB m = true := by unfold scB; rw [decide_eq_true (by omega), decide_eq_true (by omega)]; rfl
        rw [List.all_cons, hs, Bool.true_and] at h
        exact h
/-- The rows and their multipliers are valid. -/
def wB (N : Int) (xs : List (Int × List Int)) (ms : List Int) : Bool := SysS.sysV N xs && (decide (ms.length = xs.length) && ms.all scB)
theorem combR_no {N : Int} {xs : List (Int × List Int)} {ms : List Int} (h : wB N xs ms = false) : combR N xs ms = none := by
  unfold combR
  split
  · rename_i hc
    refine comb_bad hc.2 ?_
    unfold wB at h
    rw [hc.1, decide_eq_true hc.2] at h
    exact h
  · rfl
theorem combR_yes {N : Int} {xs : List (Int × List Int)} {ms : List Int} (h : wB N xs ms = true) : combR N xs ms = comb (constL 0 N) ms xs ∧ ms.length = xs.length ∧ ∀ m ∈ ms, 0 ≤ m := by
  unfold wB at h
  simp only [Bool.and_eq_true, decide_eq_true_eq, List.all_eq_true] at h
  refine ⟨if_pos ⟨h.1, h.2.1⟩, h.2.1, fun m hm => ?_⟩
  have := h.2.2 m hm
  unfold scB at this
  simp only [Bool.and_eq_true, decide_eq_true_eq] at this
  exact this.1
theorem addS_small {a b : Int × List Int} {k : Int} {x : Int × List Int} (h : addS a.1 a.2 k x.1 x.2 = some b) : b.2.length ≤ 8 := by
  unfold addS at h
  split at h
  · rename_i hv
    have h1 := vldB_iff.1 hv.1
    have h2 := vldB_iff.1 hv.2
    obtain ⟨c, _, hc⟩ := Option.bind_eq_some_iff.1 h
    obtain ⟨cs, hcs, rfl⟩ := Option.map_eq_some_iff.1 hc
    have := addPs_len k a.2 x.2 cs (by omega) hcs
    simp only
    omega
  · cases h
theorem comb_small : ∀ {ms : List Int} {xs : List (Int × List Int)} {a b : Int × List Int}, a.2.length ≤ 8 → comb a ms xs = some b → b.2.length ≤ 8
  | [], xs, a, b, ha, h => by rw [comb_nil] at h; injection h with h; subst h; exact ha
  | m :: ms, [], a, b, ha, h => by injection h with h; subst h; exact ha
  | m :: ms, x :: xs, a, b, ha, h => by
    rw [comb_cons] at h
    split at h
    · cases h
    · obtain ⟨c, hc, hb⟩ := Option.bind_eq_some_iff.1 h
      exact comb_small (addS_small hc) hb
theorem combR_small (N : Int) (xs : List (Int × List Int)) (ms : List Int) : ((combR N xs ms).getD (0, [])).2.length ≤ 8 := by
  cases h : combR N xs ms with
  | none => simp
  | some b =>
    rw [Option.getD_some]
    unfold combR at h
    split at h
    · exact comb_small (constL_small 0 N) h
    · cases h
/-- The refutation's sum. -/
def refS (N : Int) (xs : List (Int × List Int)) (t : Int × List Int) (sc : Int) (ms : List Int) : Option (Int × List Int) :=
  if scB sc = true then (combR N xs ms).bind fun s => (addS t.1 t.2 1 (constL 1 N).1 (constL 1 N).2).bind fun m => addS s.1 s.2 (-sc) m.1 m.2 else none
/-- .. contradicts itself. -/
def contra (r : Option (Int × List Int)) : Bool := r.isSome && (isC (r.getD (0, [])).2 && decide ((r.getD (0, [])).1 < 0))
theorem combR_cnt {N : Int} {xs : List (Int × List Int)} {ms : List Int} {s : Int × List Int} (h : combR N xs ms = some s) : cntB N = true := by
  unfold combR at h
  split at h
  · rename_i hv
    have h1 := hv.1
    unfold SysS.sysV at h1
    simp only [Bool.and_eq_true] at h1
    exact h1.2.1
  · cases h
theorem contra_check (N : Int) (xs : List (Int × List Int)) (t : Int × List Int) (sc : Int) (ms : List Int) : contra (refS N xs t sc ms) = checkF N xs t sc ms := by
  unfold checkF refS
  cases hc : combR N xs ms with
  | none => by_cases h : scB sc = true <;> simp [h, contra]
  | some s =>
    by_cases h : scB sc = true
    · rw [if_pos h, h]
      simp only [Option.bind_some, Option.isSome_some, Option.getD_some, Bool.true_and]
      unfold checkB
      cases ha : addS t.1 t.2 1 (constL 1 N).1 (constL 1 N).2 with
      | none => simp [contra]
      | some m =>
        simp only [Option.bind_some, Option.isSome_some, Option.getD_some, Bool.true_and]
        have hv : vldB t.1 t.2 N = true := by
          unfold addS at ha
          split at ha
          · rename_i hv
            have h1 := (vldB_iff.1 hv.2).2.1
            have hcn := combR_cnt hc
            unfold constL at h1
            rw [if_pos ⟨hcn, by decide⟩] at h1
            have h2 := (cntB_iff.1 hcn)
            have h3 : (t.2.length : Int) = N := by rw [List.length_replicate] at h1; omega
            rw [h3] at hv
            exact hv.1
          · cases ha
        rw [hv, Bool.true_and, show (0 : Int) - sc = -sc by omega]
        rfl
    · rw [if_neg h]
      simp only [Bool.not_eq_true] at h
      simp [h, contra]
theorem contra_empty (N : Int) (xs : List (Int × List Int)) (ms : List Int) : contra (combR N xs ms) = checkE N xs ms := rfl
theorem refS_small (N : Int) (xs : List (Int × List Int)) (t : Int × List Int) (sc : Int) (ms : List Int) : ((refS N xs t sc ms).getD (0, [])).2.length ≤ 8 := by
  cases h : refS N xs t sc ms with
  | none => simp
  | some b =>
    rw [Option.getD_some]
    unfold refS at h
    split at h
    · obtain ⟨s, _, h1⟩ := Option.bind_eq_some_iff.1 h
      obtain ⟨m, _, h2⟩ := Option.bind_eq_some_iff.1 h1
      exact addS_small h2
    · cases h
end FarkM
end Go.Proofs.Ytgpjgjjadhmkhaa

/-
  The program's certificates: multipliers, constants, the rows' validity, comparison.
-/
namespace Go.Proofs.Ytgpjgjjadhmkhaa
open Go.RowKit
namespace FarkI
open RowK Mem LinM FarkM

theorem all_no1 {p : Int → Bool} {vs : List Int} {k : Nat} (hk : k < vs.length) (h : p vs[k] = false) : vs.all p = false := by
  rw [List.all_eq_false]
  exact ⟨vs[k], List.getElem_mem _, by simp [h]⟩
def zB (x : Int) : Bool := x == 0
set_option maxHeartbeats 1000000 in
set_option maxRecDepth 100000 in
theorem sameInts (lo hi lo' hi' : Nat) (A B : Option Addr) (c d : Nat) (zs us : List Int) (w : World) (hA : Row lo hi w A (IntK.iv zs)) (hB : Row lo' hi' w B (IntK.iv us)) (hl : zs.length ≤ 1000000000) (hl2 : us.length ≤ 1000000000) :
    Calls Try.prog 28 #[.slice A zs.length c, .slice B us.length d] w fun e w' => e = .returned (.bool (decide (zs = us))) ∧ Below w.heap.size w w' := by
  by_cases h2 : zs.length = us.length
  · have hyes := Lib.hid (fun (h : ∀ j (h1 : j < zs.length) (h2 : j < us.length), zs[j] = us[j]) => (show decide (zs = us) = true from decide_eq_true (List.ext_getElem h2 h)))
    have hno := Lib.hid (fun j (h1 : j < zs.length) (h2 : j < us.length) (h : zs[j] ≠ us[j]) => (show decide (zs = us) = false from decide_eq_false (fun e => h (by subst e; rfl))))
    have H2 := Lib.hid h2
    have hne : ((zs.length : Int) != (us.length : Int)) = false := by simp [h2]
    clear h2
    generalize decide (zs = us) = R at *
    go_enter Try.func28, Try.ntmps28
    go_wp2
    go_loopw [13] (fun i wr => ∃ k : Nat, k ≤ zs.length ∧ i = .int .i64 k ∧ (∀ j (h1 : j < zs.length) (h2 : j < us.length), j < k → zs[j] = us[j]) ∧ Below w.heap.size w wr) (fun i _ => zs.length - (intOf i).toNat)
    case atStart => exact ⟨0, Nat.zero_le _, rfl, fun j _ _ h => by omega, Below.refl _ _⟩
    case round =>
      obtain ⟨k, hk, rfl, hpre, hb⟩ := hrel
      have HP := Lib.hid hpre
      clear hpre
      by_cases hlt : k < zs.length
      · have hlt2 : k < us.length := by rw [← H2.out]; exact hlt
        obtain ⟨b1, o1, rfl, _, hc1⟩ := IntK.at_ (hA.below hb) hlt
        obtain ⟨b2, o2, rfl, _, hc2⟩ := IntK.at_ (hB.below hb) hlt2
        have hn := Lib.hid (hno.out k hlt hlt2)
        have hs := Lib.hid (fun (h : zs[k] = us[k]) j (h1 : j < zs.length) (h2 : j < us.length) (h3 : j < k + 1) => (show zs[j] = us[j] from by
          by_cases e : j = k
          · subst e; exact h
          · exact HP.out j h1 h2 (by omega)))
        generalize zs[k] = x at *
        generalize us[k] = y at *
        have hi0 : (0 : Int) ≤ (k : Int) := by omega
        have hi1 : (k : Int) < (zs.length : Int) := by omega
        have hi2 : (k : Int) < (us.length : Int) := by omega
        clear hno hyes
        by_cases hxy : x = y
        · have hs' := Lib.hid (hs.out hxy)
          clear hs hn
          subst hxy
          go_wp2
          go_quiet (fail)
          go_wp2
          go_roundw
          case rel => exact ⟨k + 1, by omega, by go_num, hs'.out, below_drewN hb _⟩
          case measure => simp [intOf]; omega
        · have hn' := Lib.hid (hn.out hxy)
          have hxy' : (x != y) = true := by simpa using hxy
          clear hs hn hxy
          go_wp2
          go_quiet (fail)
          go_wp2
          go_ret
          exact ⟨ArithI.ret_bool hn'.out.symm, below_drewN hb _⟩
      · obtain rfl : k = zs.length := by omega
        have hv := Lib.hid (hyes.out (fun j h1 h2 => HP.out j h1 h2 h1))
        clear hyes hno
        go_wp2
        go_ret
        exact ⟨ArithI.ret_bool hv.out.symm, hb⟩
  · have hne : ((zs.length : Int) != (us.length : Int)) = true := by simp; omega
    rw [decide_eq_false (show ¬ zs = us from fun e => h2 (by rw [e]))]
    clear h2
    go_enter Try.func28, Try.ntmps28
    go_wp2
    go_ret
    exact ⟨rfl, Below.refl _ _⟩
end FarkI
end Go.Proofs.Ytgpjgjjadhmkhaa
