import Derived.Test.YtgpjgjjadhmkhaaArithSpec
/-
  Plain facts on linear expressions: validity, values, scaled sums, tightened constraints.
-/
namespace Go.Proofs.Ytgpjgjjadhmkhaa
namespace LinM
open ArithM

/-- Are there expressions of n variables? -/
def cntB (n : Int) : Bool := decide (0 ≤ n) && decide (n ≤ 8)
theorem cntB_iff {n : Int} : cntB n = true ↔ 0 ≤ n ∧ n ≤ 8 := by simp [cntB]
/-- Is the expression one of n variables within the limits? -/
def vldB (z : Int) (zs : List Int) (n : Int) : Bool := (cntB n && decide ((zs.length : Int) = n)) && (inC z && zs.all inC)

theorem vldB_iff {z : Int} {zs : List Int} {n : Int} : vldB z zs n = true ↔ (0 ≤ n ∧ n ≤ 8) ∧ (zs.length : Int) = n ∧ inC z = true ∧ ∀ x ∈ zs, inC x = true := by
  simp only [vldB, Bool.and_eq_true, cntB_iff, decide_eq_true_eq, List.all_eq_true]
  constructor
  · rintro ⟨⟨h1, h2⟩, h3, h4⟩; exact ⟨h1, h2, h3, h4⟩
  · rintro ⟨h1, h2, h3, h4⟩; exact ⟨⟨h1, h2⟩, h3, h4⟩
theorem vldB_false_head {z : Int} {zs : List Int} {n : Int} (h : cntB n = false ∨ (zs.length : Int) ≠ n ∨ inC z = false) : vldB z zs n = false := by
  rcases h with h | h | h <;> simp [vldB, h]
theorem all_get {zs : List Int} (h : ∀ x ∈ zs, inC x = true) (k : Nat) (hk : k < zs.length) : inC zs[k] = true := h _ (List.getElem_mem hk)

/-- The sum of the products. -/
def dot : List Int → List Int → Int
  | x :: xs, y :: ys => x * y + dot xs ys
  | _, _ => 0
theorem dot_take (zs : List Int) : ∀ (vs : List Int) (k : Nat) (h1 : k < zs.length) (h2 : k < vs.length), dot (zs.take (k + 1)) (vs.take (k + 1)) = dot (zs.take k) (vs.take k) + zs[k] * vs[k] := by
  induction zs with
  | nil => intro vs k h1; simp at h1
  | cons x xs ih =>
    intro vs k h1 h2
    cases vs with
    | nil => simp at h2
    | cons y ys =>
      cases k with
      | zero => simp [dot]
      | succ k =>
        simp only [List.take_succ_cons, dot, List.getElem_cons_succ]
        rw [ih ys k (by simpa using h1) (by simpa using h2)]
        omega

theorem mul_bd {x y a b : Int} (h1 : -a ≤ x ∧ x ≤ a) (h2 : -b ≤ y ∧ y ≤ b) : -(a * b) ≤ x * y ∧ x * y ≤ a * b := by
  have ha : 0 ≤ a := by omega
  have hb : 0 ≤ b := by omega
  have h : (x * y).natAbs ≤ (a * b).natAbs := by
    rw [Int.natAbs_mul, Int.natAbs_mul]
    exact Nat.mul_le_mul (by omega) (by omega)
  have hab : 0 ≤ a * b := Int.mul_nonneg ha hb
  omega

theorem dot_bound : ∀ (zs vs : List Int), (∀ x ∈ zs, inC x = true) → (∀ y ∈ vs, inF y = true) → -(zs.length * 1000000000000000) ≤ dot zs vs ∧ dot zs vs ≤ zs.length * 1000000000000000
  | [], vs, _, _ => by simp [dot]
  | x :: xs, [], _, _ => by simp only [dot, List.length_cons]; omega
  | x :: xs, y :: ys, h1, h2 => by
    have ih := dot_bound xs ys (fun a ha => h1 a (List.mem_cons_of_mem _ ha)) (fun a ha => h2 a (List.mem_cons_of_mem _ ha))
    have hx := inC_iff.1 (h1 x List.mem_cons_self)
    have hy := inF_iff.1 (h2 y List.mem_cons_self)
    have hm := mul_bd hx hy
    simp only [dot, List.length_cons]
    generalize x * y = p at *
    omega

/-- The value, where the expression is valid and the values fit. -/
def evalL (z : Int) (zs vs : List Int) : Option Int := if vldB z zs vs.length = true ∧ vs.all inF = true then some (z + dot zs vs) else none

/-- x + k * y, where all is within the limits. -/
def addP (x k y : Int) : Option Int := (mulL k y).bind (addL x)
/-- .. place by place. -/
def addPs (k : Int) : List Int → List Int → Option (List Int)
  | x :: xs, y :: ys => (addP x k y).bind fun a => (addPs k xs ys).map (a :: ·)
  | _, _ => some []
/-- a + k * b. -/
def addS (z : Int) (zs : List Int) (k u : Int) (us : List Int) : Option (Int × List Int) :=
  if vldB z zs zs.length = true ∧ vldB u us zs.length = true then (addP z k u).bind fun c => (addPs k zs us).map fun cs => (c, cs) else none

theorem addP_some {x k y a : Int} (h : addP x k y = some a) : inC k = true ∧ inC a = true ∧ a = x + k * y := by
  unfold addP mulL at h
  split at h
  · rename_i hm
    simp only [Option.bind_some] at h
    unfold addL at h
    split at h
    · rename_i ha
      injection h with h
      exact ⟨hm.1, h ▸ ha.2.2, h.symm⟩
    · cases h
  · cases h

theorem addPs_len (k : Int) : ∀ (zs us : List Int) (cs : List Int), zs.length = us.length → addPs k zs us = some cs → cs.length = zs.length
  | [], [], cs, _, h => by simp [addPs] at h; subst h; rfl
  | [], _ :: _, _, hl, _ => by simp at hl
  | _ :: _, [], _, hl, _ => by simp at hl
  | x :: xs, y :: ys, cs, hl, h => by
    simp only [addPs, Option.bind_eq_some_iff, Option.map_eq_some_iff] at h
    obtain ⟨a, _, r, hr, rfl⟩ := h
    simp [addPs_len k xs ys r (by simpa using hl) hr]

/-- The sum so far, where all went well: place by place. -/
theorem addPs_iff (k : Int) : ∀ (zs us : List Int) (cs : List Int), zs.length = us.length → (addPs k zs us = some cs ↔ cs.length = zs.length ∧ ∀ (j : Nat) (x y : Int), zs[j]? = some x → us[j]? = some y → addP x k y = cs[j]?)
  | [], [], cs, _ => by
    simp only [addPs]
    constructor
    · intro h; injection h with h; subst h; exact ⟨rfl, fun j x y h => by simp at h⟩
    · rintro ⟨h, _⟩; rw [List.eq_nil_of_length_eq_zero h]
  | [], _ :: _, _, hl => by simp at hl
  | _ :: _, [], _, hl => by simp at hl
  | x :: xs, y :: ys, cs, hl => by
    have ih := addPs_iff k xs ys
    simp only [addPs, Option.bind_eq_some_iff, Option.map_eq_some_iff]
    constructor
    · rintro ⟨a, ha, r, hr, rfl⟩
      obtain ⟨h1, h2⟩ := (ih r (by simpa using hl)).1 hr
      refine ⟨by simp [h1], fun j x' y' hx hy => ?_⟩
      cases j with
      | zero => simp at hx hy; subst hx; subst hy; simpa using ha
      | succ j => simp at hx hy ⊢; exact h2 j x' y' hx hy
    · rintro ⟨h1, h2⟩
      cases cs with
      | nil => simp at h1
      | cons a r =>
        refine ⟨a, by simpa using h2 0 x y rfl rfl, r, (ih r (by simpa using hl)).2 ⟨by simpa using h1, fun j x' y' hx hy => by simpa using h2 (j + 1) x' y' (by simpa using hx) (by simpa using hy)⟩, rfl⟩
theorem addPs_none (k : Int) : ∀ (zs us : List Int) (j : Nat) (h1 : j < zs.length) (h2 : j < us.length), addP zs[j] k us[j] = none → addPs k zs us = none
  | [], us, j, h1, _, _ => by simp at h1
  | _ :: _, [], j, _, h2, _ => by simp at h2
  | x :: xs, y :: ys, 0, _, _, h => by simp only [List.getElem_cons_zero] at h; simp [addPs, h]
  | x :: xs, y :: ys, j + 1, h1, h2, h => by
    have ih := addPs_none k xs ys j (by simpa using h1) (by simpa using h2) (by simpa using h)
    simp [addPs, ih]
theorem addPs_mk (k : Int) (zs us cs : List Int) (hl : zs.length = us.length) (hc : cs.length = zs.length) (h : ∀ j (h1 : j < zs.length) (h2 : j < us.length) (h3 : j < cs.length), addP zs[j] k us[j] = some cs[j]) : addPs k zs us = some cs :=
  (addPs_iff k zs us cs hl).2 ⟨hc, fun j x y hx hy => by
    obtain ⟨h1, rfl⟩ := List.getElem?_eq_some_iff.1 hx
    obtain ⟨h2, rfl⟩ := List.getElem?_eq_some_iff.1 hy
    have h3 : j < cs.length := by omega
    rw [h j h1 h2 h3, List.getElem?_eq_getElem h3]⟩

/-- The common divisor of all. -/
def gcds (zs : List Int) : Int := zs.foldl gcdL 0
/-- The tightened constraint. -/
def tightL (z : Int) (zs : List Int) : Int × List Int :=
  if vldB z zs zs.length = true ∧ 2 ≤ gcds zs then (floorL z (gcds zs), zs.map fun x => x.tdiv (gcds zs)) else (z, zs)

theorem gcds_take (zs : List Int) (k : Nat) (h : k < zs.length) : gcds (zs.take (k + 1)) = gcdL (gcds (zs.take k)) zs[k] := by
  unfold gcds
  rw [List.take_add_one, List.getElem?_eq_getElem h, List.foldl_append]
  rfl
theorem gcdL_le {x y : Int} (hx : inC x = true) (hy : inC y = true) (h0 : 0 ≤ x) : gcdL x y ≤ 1000000000 := by
  rw [gcdL, if_pos ⟨hx, hy⟩]
  rw [inC_iff] at hx hy
  rcases Nat.eq_zero_or_pos x.natAbs with h | h
  · rw [h, Nat.gcd_zero_left]; omega
  · have := Nat.gcd_le_left y.natAbs h
    omega
theorem fold_bound : ∀ (zs : List Int) (a : Int), (0 ≤ a ∧ a ≤ 1000000000) → (∀ x ∈ zs, inC x = true) → 0 ≤ zs.foldl gcdL a ∧ zs.foldl gcdL a ≤ 1000000000
  | [], _, h, _ => h
  | x :: xs, a, h, hx => fold_bound xs (gcdL a x) ⟨gcdL_nonneg _ _, gcdL_le (inC_iff.2 ⟨by omega, by omega⟩) (hx x List.mem_cons_self) h.1⟩ (fun y hy => hx y (List.mem_cons_of_mem _ hy))
theorem gcds_bound (zs : List Int) (h : ∀ x ∈ zs, inC x = true) : 0 ≤ gcds zs ∧ gcds zs ≤ 1000000000 := fold_bound zs 0 ⟨by omega, by omega⟩ h
theorem tdiv_bound {x g : Int} (hx : inC x = true) (_hg : 1 ≤ g) : -1000000000 ≤ x.tdiv g ∧ x.tdiv g ≤ 1000000000 := by
  rw [inC_iff] at hx
  have h := Int.natAbs_tdiv x g
  have h2 : x.natAbs.div g.natAbs ≤ x.natAbs := Nat.div_le_self x.natAbs g.natAbs
  rw [← h] at h2
  omega

/-- The constant k as an expression of n variables. -/
def constL (k n : Int) : Int × List Int := if cntB n = true ∧ inC k = true then (k, List.replicate n.toNat 0) else (0, [])
/-- Variable number i as an expression of n variables. -/
def varL (i n : Int) : Int × List Int := if cntB n = true ∧ 0 ≤ i ∧ i < n then (0, (List.replicate n.toNat 0).set i.toNat 1) else (0, [])

/-- What has been divided behind k rounds. -/
def divPart (g : Int) (zs : List Int) (k : Nat) : List Int := (zs.take k).map (fun x => x.tdiv g) ++ zs.drop k
theorem divPart_zero (g : Int) (zs : List Int) : divPart g zs 0 = zs := by simp [divPart]
theorem divPart_all (g : Int) (zs : List Int) : divPart g zs zs.length = zs.map fun x => x.tdiv g := by simp [divPart]
theorem divPart_len (g : Int) (zs : List Int) (k : Nat) : (divPart g zs k).length = zs.length := by simp [divPart]; omega
theorem divPart_get (g : Int) (zs : List Int) (k : Nat) (h : k < zs.length) : (divPart g zs k)[k]? = some zs[k] := by
  unfold divPart
  rw [List.getElem?_append_right (by simp; omega), List.length_map, List.length_take, Nat.min_eq_left (by omega), Nat.sub_self, List.getElem?_drop]
  simp
theorem divPart_set (g : Int) (zs : List Int) (k : Nat) (h : k < zs.length) : (divPart g zs k).set k (zs[k].tdiv g) = divPart g zs (k + 1) := by
  unfold divPart
  rw [List.set_append_right _ _ (by simp; omega), List.length_map, List.length_take, Nat.min_eq_left (by omega), Nat.sub_self, List.drop_eq_getElem_cons h, List.set_cons_zero, List.take_add_one, List.getElem?_eq_getElem h, List.map_append, List.append_assoc]
  rfl

/-- Are the expressions equal? -/
def eqB (z u : Int) (zs us : List Int) : Bool := decide (z = u) && decide (zs = us)
theorem eqB_true {z u : Int} {zs us : List Int} (h1 : z = u) (h2 : zs = us) : eqB z u zs us = true := by simp [eqB, h1, h2]
theorem eqB_false {z u : Int} {zs us : List Int} (h : z ≠ u ∨ zs ≠ us) : eqB z u zs us = false := by
  rcases h with h | h <;> simp [eqB, h]
theorem ext_getD {zs us : List Int} (hl : zs.length = us.length) (k : Nat) (hk : zs.length ≤ k) (h : ∀ j, j < k → zs.getD j 0 = us.getD j 0) : zs = us := by
  refine List.ext_getElem hl (fun j h1 h2 => ?_)
  have := h j (by omega)
  simpa [List.getD, List.getElem?_eq_getElem h1, List.getElem?_eq_getElem h2] using this
theorem drop_getD (zs : List Int) (i j : Nat) : (zs.drop i).getD j 0 = zs.getD (i + j) 0 := by simp [List.getD, List.getElem?_drop]

/-- The sums, 0 where there is none; are there all? -/
def pureS (k : Int) (zs us : List Int) : List Int := List.zipWith (fun x y => (addP x k y).getD 0) zs us
def okS (k : Int) (zs us : List Int) : Bool := (List.zipWith (fun x y => (addP x k y).isSome) zs us).all id
theorem addPs_eq (k : Int) : ∀ (zs us : List Int), addPs k zs us = if okS k zs us = true then some (pureS k zs us) else none
  | [], _ => by simp [addPs, okS, pureS]
  | _ :: _, [] => by simp [addPs, okS, pureS]
  | x :: xs, y :: ys => by
    have ih := addPs_eq k xs ys
    have e1 : okS k (x :: xs) (y :: ys) = ((addP x k y).isSome && okS k xs ys) := rfl
    have e2 : pureS k (x :: xs) (y :: ys) = (addP x k y).getD 0 :: pureS k xs ys := rfl
    rw [e1, e2, addPs, ih]
    generalize addP x k y = r
    generalize okS k xs ys = b
    generalize pureS k xs ys = P
    cases r <;> cases b <;> simp
theorem pureS_len (k : Int) (zs us : List Int) (h : us.length = zs.length) : (pureS k zs us).length = zs.length := by simp [pureS, h]
theorem pureS_get (k : Int) (zs us : List Int) (j : Nat) (h1 : j < zs.length) (h2 : j < us.length) (h3 : j < (pureS k zs us).length) : (pureS k zs us)[j] = (addP zs[j] k us[j]).getD 0 := by simp [pureS]
theorem okS_take (k : Int) (zs us : List Int) (j : Nat) (h1 : j < zs.length) (h2 : j < us.length) : okS k (zs.take (j + 1)) (us.take (j + 1)) = (okS k (zs.take j) (us.take j) && (addP zs[j] k us[j]).isSome) := by
  unfold okS
  rw [List.take_add_one, List.take_add_one, List.getElem?_eq_getElem h1, List.getElem?_eq_getElem h2, List.zipWith_append (by simp; omega)]
  simp

theorem constL_small (k n : Int) : (constL k n).2.length ≤ 8 := by
  unfold constL
  split
  · rename_i h
    have := cntB_iff.1 h.1
    simp; omega
  · simp
theorem varL_small (k n : Int) : (varL k n).2.length ≤ 8 := by
  unfold varL
  split
  · rename_i h
    have := cntB_iff.1 h.1
    simp; omega
  · simp
end LinM
end Go.Proofs.Ytgpjgjjadhmkhaa
