import Derived.Test.YtbdpohcababccaaTextMath
import Derived.Test.YtbdpohcababccaaSortMath
import Derived.Test.YtbdpohcababccaaArithSpec
import Derived.Test.YtbdpohcababccaaArgSplit
/-
  Plain mathematics of sums and arguments: which are valid, how they are written, what is read. Imports nothing of the program.
-/
namespace Go.Proofs.Ytbdpohcababccaa
namespace ArgM
open TextM NameM SortM

abbrev Sm := Int × List TItem
def intName (s : ByteArray) : Bool := validName s && !listName s
/-- A term of a valid sum. -/
def termV (t : TItem) : Bool := decide (t.1 ≠ 0) && ArithM.inF t.1 && intName t.2
def ascN (a b : TItem) : Bool := decide (a.2.data.toList < b.2.data.toList)
def ordT : List TItem → Bool
  | a :: b :: r => ascN a b && ordT (b :: r)
  | _ => true
theorem ordT_iff : ∀ {ts : List TItem}, ordT ts = true ↔ ∀ k a b, ts[k]? = some a → ts[k + 1]? = some b → ascN a b = true
  | [] => ⟨fun _ k a b h => by simp at h, fun _ => rfl⟩
  | [a] => ⟨fun _ k a b _ h => by simp at h, fun _ => rfl⟩
  | x :: y :: r => by
    rw [ordT, Bool.and_eq_true, ordT_iff (ts := y :: r)]
    constructor
    · rintro ⟨h1, h2⟩ k a b ha hb
      cases k with
      | zero =>
        simp only [List.getElem?_cons_zero, Option.some.injEq, Nat.zero_add, List.getElem?_cons_succ] at ha hb
        subst ha; subst hb
        exact h1
      | succ k => exact h2 k a b (by simpa using ha) (by simpa using hb)
    · intro h
      exact ⟨h 0 x y rfl rfl, fun k a b ha hb => h (k + 1) a b (by simpa using ha) (by simpa using hb)⟩
def sumV (s : Sm) : Bool := ArithM.inF s.1 && decide (s.2.length ≤ 4) && (s.2.all termV && ordT s.2)
theorem sumV_iff {s : Sm} : sumV s = true ↔ ArithM.inF s.1 = true ∧ s.2.length ≤ 4 ∧ (∀ t ∈ s.2, termV t = true) ∧ ordT s.2 = true := by
  simp only [sumV, Bool.and_eq_true, decide_eq_true_eq, List.all_eq_true]
  exact ⟨fun ⟨⟨a, b⟩, c, d⟩ => ⟨a, b, c, d⟩, fun ⟨a, b, c, d⟩ => ⟨⟨a, b⟩, c, d⟩⟩
theorem termV_iff {t : TItem} : termV t = true ↔ t.1 ≠ 0 ∧ ArithM.inF t.1 = true ∧ intName t.2 = true := by
  simp only [termV, Bool.and_eq_true, decide_eq_true_eq]
  exact ⟨fun ⟨⟨a, b⟩, c⟩ => ⟨a, b, c⟩, fun ⟨a, b, c⟩ => ⟨⟨a, b⟩, c⟩⟩
theorem intName_valid {s : ByteArray} (h : intName s = true) : validName s = true := by
  simp only [intName, Bool.and_eq_true] at h
  exact h.1
theorem valid_shape {s : ByteArray} (h : validName s = true) : NameM.shape s.data.toList = true ∧ s.size ≤ 8 := by
  simp only [validName, Bool.and_eq_true, decide_eq_true_eq] at h
  exact h.1
theorem asc_head : ∀ {ts : List TItem} {a : TItem}, ordT (a :: ts) = true → ∀ t ∈ ts, a.2.data.toList < t.2.data.toList
  | [], _, _, _, h => by cases h
  | b :: r, a, h, t, ht => by
    rw [ordT, Bool.and_eq_true] at h
    have h1 : a.2.data.toList < b.2.data.toList := by simpa [ascN] using h.1
    rcases List.mem_cons.1 ht with rfl | ht
    · exact h1
    · exact lt_trans h1 (asc_head h.2 t ht)
theorem ordT_tail {a : TItem} {ts : List TItem} (h : ordT (a :: ts) = true) : ordT ts = true := by
  cases ts with
  | nil => rfl
  | cons b r =>
    rw [ordT, Bool.and_eq_true] at h
    exact h.2
theorem asc_get : ∀ {ts : List TItem}, ordT ts = true → ∀ (i j : Nat) a b, i < j → ts[i]? = some a → ts[j]? = some b → a.2.data.toList < b.2.data.toList
  | [], _, i, j, a, b, _, h, _ => by simp at h
  | x :: ts, h, 0, j + 1, a, b, _, ha, hb => by
    simp only [List.getElem?_cons_zero, Option.some.injEq, List.getElem?_cons_succ] at ha hb
    subst ha
    exact asc_head h b (List.mem_of_getElem? hb)
  | x :: ts, h, i + 1, j + 1, a, b, hij, ha, hb => asc_get (ordT_tail h) i j a b (by omega) (by simpa using ha) (by simpa using hb)
abbrev nms (s : Sm) : List ByteArray := s.2.map (·.2)
abbrev cfs (s : Sm) : List Int := s.2.map (·.1)
theorem names_of {s : Sm} (h : sumV s = true) : Names (nms s) := by
  obtain ⟨_, h2, h3, h4⟩ := sumV_iff.1 h
  refine ⟨by simp only [nms, List.length_map]; omega, fun i j n hi hj => ?_, fun n hn => ?_⟩
  · rw [List.getElem?_map, Option.map_eq_some_iff] at hi hj
    obtain ⟨a, ha, rfl⟩ := hi
    obtain ⟨b, hb, e⟩ := hj
    rcases Nat.lt_trichotomy i j with h | h | h
    · have := asc_get h4 i j a b h ha hb
      rw [e] at this
      exact absurd this (lt_irrefl _)
    · exact h
    · have := asc_get h4 j i b a h hb ha
      rw [e] at this
      exact absurd this (lt_irrefl _)
  · obtain ⟨t, ht, rfl⟩ := List.mem_map.1 hn
    exact (valid_shape (intName_valid (termV_iff.1 (h3 t ht)).2.2)).1
/-- How a sum is written. -/
def fmtS (s : Sm) : List UInt8 := fmt (nms s) s.1 (cfs s)
def itemsS (s : Sm) : List TItem := items (nms s) s.1 (cfs s)
theorem zip_self : ∀ ts : List TItem, (ts.map (·.1)).zip (ts.map (·.2)) = ts
  | [] => rfl
  | t :: ts => by rw [List.map_cons, List.map_cons, List.zip_cons_cons, zip_self ts]
theorem itemsS_eq {s : Sm} (h : ∀ t ∈ s.2, t.1 ≠ 0) : itemsS s = if s.2 = [] ∧ s.1 = 0 then [(0, ByteArray.empty)] else s.2 ++ (if s.1 = 0 then [] else [(s.1, ByteArray.empty)]) := by
  have hf : ((mk (nms s) s.1 (cfs s)).filter fun p => decide (p.1 ≠ 0)) = s.2 ++ (if s.1 = 0 then [] else [(s.1, ByteArray.empty)]) := by
    unfold mk
    rw [zip_self, List.filter_append, List.filter_eq_self.2 (fun t ht => by simpa using h t ht)]
    congr 1
    by_cases h0 : s.1 = 0 <;> simp [h0]
  unfold itemsS items
  rw [hf]
  by_cases h1 : s.2 = []
  · by_cases h0 : s.1 = 0
    · rw [if_pos (by rw [h1, if_pos h0]; rfl), if_pos ⟨h1, h0⟩]
    · rw [if_neg (by rw [if_neg h0]; simp), if_neg (show ¬ (s.2 = [] ∧ s.1 = 0) from fun e => h0 e.2)]
  · rw [if_neg (fun e => h1 (List.append_eq_nil_iff.1 e).1), if_neg (show ¬ (s.2 = [] ∧ s.1 = 0) from fun e => h1 e.1)]
def SmallS (hi : Int) (s : Sm) : Prop := (-hi ≤ s.1 ∧ s.1 ≤ hi) ∧ ∀ t ∈ s.2, -hi ≤ t.1 ∧ t.1 ≤ hi
theorem small_mill {s : Sm} (h : sumV s = true) : SmallS 1000000 s := by
  obtain ⟨h1, _, h3, _⟩ := sumV_iff.1 h
  exact ⟨ArithM.inF_iff.1 h1, fun t ht => ArithM.inF_iff.1 (termV_iff.1 (h3 t ht)).2.1⟩
theorem items_ok {hi : Int} (h0 : 0 ≤ hi) {s : Sm} (h : sumV s = true) (hs : SmallS hi s) : ∀ t ∈ itemsS s, TextM.Good hi t :=
  items_good h0 (names_of h) ⟨hs.1, fun x hx => by
    obtain ⟨t, ht, rfl⟩ := List.mem_map.1 hx
    exact hs.2 t ht⟩
/-- The terms laid into a sum, one by one. -/
def stepS (l : Sm) (t : TItem) : Sm := if t.2.size = 0 then (t.1, l.2) else (l.1, l.2 ++ [t])
def RS (ts : List TItem) : Sm := ts.foldl stepS (0, [])
theorem fold_named : ∀ (ts pre : List TItem) (z : Int), (∀ t ∈ ts, t.2.size ≠ 0) → ts.foldl stepS (z, pre) = (z, pre ++ ts)
  | [], pre, z, _ => by simp
  | t :: ts, pre, z, h => by
    rw [List.foldl_cons, stepS, if_neg (h t List.mem_cons_self), fold_named ts _ z (fun u hu => h u (List.mem_cons_of_mem _ hu))]
    simp
theorem RS_items {s : Sm} (h : sumV s = true) : RS (itemsS s) = s := by
  obtain ⟨_, _, h3, _⟩ := sumV_iff.1 h
  have hn : ∀ t ∈ s.2, t.2.size ≠ 0 := fun t ht => by
    have := shape_pos (valid_shape (intName_valid (termV_iff.1 (h3 t ht)).2.2)).1
    omega
  rw [itemsS_eq (fun t ht => (termV_iff.1 (h3 t ht)).1)]
  obtain ⟨z, ts⟩ := s
  simp only at hn ⊢
  unfold RS
  split
  · rename_i hc
    obtain ⟨rfl, rfl⟩ := hc
    rfl
  · rw [List.foldl_append, fold_named ts [] 0 hn, List.nil_append]
    split
    · rename_i h0
      subst h0
      rfl
    · rw [List.foldl_cons, List.foldl_nil, stepS, if_pos (by rfl)]
theorem foldS_small {hi : Int} : ∀ (ts : List TItem) (l : Sm), SmallS hi l → (∀ t ∈ ts, -hi ≤ t.1 ∧ t.1 ≤ hi) → SmallS hi (ts.foldl stepS l)
  | [], l, h, _ => h
  | t :: ts, l, h, ht => by
    rw [List.foldl_cons]
    refine foldS_small ts _ ?_ (fun u hu => ht u (List.mem_cons_of_mem _ hu))
    unfold stepS
    split
    · exact ⟨ht t List.mem_cons_self, h.2⟩
    · refine ⟨h.1, fun u hu => ?_⟩
      rcases List.mem_append.1 hu with hu | hu
      · exact h.2 u hu
      · rw [List.mem_singleton.1 hu]
        exact ht t List.mem_cons_self
theorem RS_len : ∀ (ts : List TItem) (l : Sm), (ts.foldl stepS l).2.length ≤ l.2.length + ts.length
  | [], l => by simp
  | t :: ts, l => by
    rw [List.foldl_cons]
    have := RS_len ts (stepS l t)
    have h2 : (stepS l t).2.length ≤ l.2.length + 1 := by
      unfold stepS
      split <;> simp
    rw [List.length_cons]
    omega
theorem RS_small {s : List UInt8} {ts : List TItem} (h : Scans s ts) : SmallS 999999 (RS ts) :=
  foldS_small ts _ ⟨⟨by omega, by omega⟩, fun t ht => by cases ht⟩ h.1

theorem fmtS_inj {a b : Sm} (ha : sumV a = true) (hb : sumV b = true) (h : fmtS a = fmtS b) : a = b := by
  unfold fmtS at h
  rw [fmt_eq, fmt_eq] at h
  have e1 := scanI_render (items_ne _ _ _) (items_ok (show (0 : Int) ≤ 1000000 by omega) ha (small_mill ha))
  have e2 := scanI_render (items_ne _ _ _) (items_ok (show (0 : Int) ≤ 1000000 by omega) hb (small_mill hb))
  unfold itemsS at *
  rw [h, e2] at e1
  have r1 := RS_items ha
  have r2 := RS_items hb
  unfold itemsS at r1 r2
  rw [← e1, r2] at r1
  exact r1.symm
/-- The text is that of the sum, which a parser can read. -/
def IsS (t : List UInt8) (s : Sm) : Prop := sumV s = true ∧ SmallS 999999 s ∧ fmtS s = t
theorem isS_scan {t : List UInt8} {ts : List TItem} {s : Sm} (h : Scans t ts) (hs : IsS t s) : RS ts = s := by
  obtain ⟨h1, h2, h3⟩ := hs
  have e : render (itemsS s) = t := by unfold itemsS; rw [← fmt_eq]; exact h3
  rw [h.2 _ (items_ne _ _ _) (items_ok (by omega) h1 h2) e]
  exact RS_items h1
/-- The sum whose representation the text is. -/
def parseS (t : List UInt8) : Option Sm := if sumV (RS (scanI 999999 t)) = true ∧ fmtS (RS (scanI 999999 t)) = t then some (RS (scanI 999999 t)) else none
theorem parseS_iff {t : List UInt8} {s : Sm} : parseS t = some s ↔ IsS t s := by
  unfold parseS
  constructor
  · intro h
    split at h
    · rename_i hc
      injection h with h
      subst h
      exact ⟨hc.1, RS_small (scansI t), hc.2⟩
    · cases h
  · intro h
    have e := isS_scan (scansI t) h
    rw [e, if_pos ⟨h.1, h.2.2⟩]
theorem parseS_scan {t : List UInt8} {ts : List TItem} (h : Scans t ts) : parseS t = if sumV (RS ts) = true ∧ fmtS (RS ts) = t then some (RS ts) else none := by
  split
  · rename_i hc
    exact parseS_iff.2 ⟨hc.1, RS_small h, hc.2⟩
  · rename_i hc
    cases e : parseS t with
    | none => rfl
    | some s =>
      have hs := parseS_iff.1 e
      rw [isS_scan h hs] at hc
      exact absurd ⟨hs.1, hs.2.2⟩ hc

/-- Nothing where the sum isn't valid. -/
def FS (s : Sm) : List UInt8 := if sumV s = true then fmtS s else []
theorem FS_ne {s : Sm} {t : List UInt8} (ht : t ≠ []) (h : FS s = t) : sumV s = true ∧ fmtS s = t := by
  unfold FS at h
  split at h
  · rename_i hv
    exact ⟨hv, h⟩
  · exact absurd h.symm ht
theorem FS_no {t : List UInt8} (ht : t ≠ []) {s : Sm} (h : ¬ (sumV s = true ∧ fmtS s = t)) : FS s ≠ t := fun e => h (FS_ne ht e)

theorem name_no {s : ByteArray} (h : s.size = 0 ∨ NameM.shape s.data.toList = true) : ∀ c ∈ s.data.toList, c ≠ 58 ∧ c ≠ 32 := fun c hc => by
  rcases h with h | h
  · rw [size_zero h] at hc; cases hc
  · obtain ⟨a, r, e, h1, h2⟩ := shape_head h
    rw [e] at hc
    have : (letter c || digit c) = true := by
      rcases List.mem_cons.1 hc with rfl | hc
      · rw [h1]; rfl
      · exact h2 c hc
    simp only [letter, digit, Bool.or_eq_true, Bool.and_eq_true, decide_eq_true_eq] at this
    refine ⟨?_, ?_⟩ <;> (rintro rfl; simp at this)
theorem word_no {hi : Int} {t : TItem} (h : TextM.Good hi t) : 58 ∉ word t.1 t.2 := fun hc => by
  unfold word at hc
  split at hc
  · exact (name_no h.2 _ hc).1 rfl
  · rw [itoa_nat] at hc
    rcases List.mem_append.1 hc with hc | hc
    · have := digits_digit _ _ hc
      simp [digit] at this
    · exact (name_no h.2 _ hc).1 rfl
theorem sgn_no (a b : Bool) : (58 : UInt8) ∉ sgn a b := by cases a <;> cases b <;> decide
theorem rest_no {hi : Int} : ∀ l : List TItem, (∀ t ∈ l, TextM.Good hi t) → 58 ∉ rest l
  | [], _, h => by cases h
  | p :: r, hg, h => by
    rw [rest] at h
    rcases List.mem_append.1 h with h | h
    · exact sgn_no _ _ h
    · rcases List.mem_append.1 h with h | h
      · exact word_no (hg p List.mem_cons_self) h
      · exact rest_no r (fun t ht => hg t (List.mem_cons_of_mem _ ht)) h
theorem render_no {hi : Int} {l : List TItem} (hg : ∀ t ∈ l, TextM.Good hi t) : 58 ∉ render l := fun h => by
  cases l with
  | nil => cases h
  | cons p r =>
    rw [render] at h
    rcases List.mem_append.1 h with h | h
    · exact sgn_no _ _ h
    · rcases List.mem_append.1 h with h | h
      · exact word_no (hg p List.mem_cons_self) h
      · exact rest_no r (fun t ht => hg t (List.mem_cons_of_mem _ ht)) h
theorem fmtS_no {s : Sm} (h : sumV s = true) : 58 ∉ fmtS s := by
  unfold fmtS
  rw [fmt_eq]
  exact render_no (items_ok (hi := 1000000) (by omega) h (small_mill h))
theorem fmtS_ne (s : Sm) : fmtS s ≠ [] := fmt_ne _ _ _

/-- What stands behind the heads. -/
def baseT (b : ByteArray) : List UInt8 := if b.size = 0 then [110, 105, 108] else b.data.toList
def baseV (b : ByteArray) : Bool := decide (b.size = 0) || listName b
theorem list_valid {b : ByteArray} (h : listName b = true) : validName b = true := by
  simp only [listName, Bool.and_eq_true] at h
  exact h.1
theorem base_shape {b : ByteArray} (h : baseV b = true) : NameM.shape (baseT b) = true := by
  unfold baseT
  simp only [baseV, Bool.or_eq_true, decide_eq_true_eq] at h
  split
  · decide
  · rename_i h0
    exact (valid_shape (list_valid (h.resolve_left h0))).1
theorem base_no {b : ByteArray} (h : baseV b = true) : 58 ∉ baseT b := fun hc => (name_no (s := ⟨(baseT b).toArray⟩) (Or.inr (by simpa using base_shape h)) 58 (by simpa using hc)).1 rfl
theorem nil_resv : validName ⟨#[110, 105, 108]⟩ = false := by decide
theorem base_inj {a b : ByteArray} (ha : baseV a = true) (hb : baseV b = true) (h : baseT a = baseT b) : a = b := by
  have key : ∀ {x : ByteArray}, baseV x = true → x.size ≠ 0 → x.data.toList ≠ [110, 105, 108] := fun {x} hx h0 e => by
    simp only [baseV, Bool.or_eq_true, decide_eq_true_eq] at hx
    have := list_valid (hx.resolve_left h0)
    rw [show x = ⟨#[110, 105, 108]⟩ from toList_inj e, nil_resv] at this
    cases this
  unfold baseT at h
  by_cases h1 : a.size = 0
  · by_cases h2 : b.size = 0
    · exact toList_inj (by rw [size_zero h1, size_zero h2])
    · rw [if_pos h1, if_neg h2] at h
      exact absurd h.symm (key hb h2)
  · by_cases h2 : b.size = 0
    · rw [if_neg h1, if_pos h2] at h
      exact absurd h (key ha h1)
    · rw [if_neg h1, if_neg h2] at h
      exact toList_inj h
/-- No sum is written as a base. -/
theorem fmtS_base {s : Sm} {b : ByteArray} (hs : sumV s = true) (hb : baseV b = true) : fmtS s ≠ baseT b := fun e => by
  have hsh := base_shape hb
  obtain ⟨c, r, e1, hc, hr⟩ := shape_head hsh
  have hg : TextM.Good 1000000 ((1 : Int), (⟨(baseT b).toArray⟩ : ByteArray)) := ⟨by simp, Or.inr (by simpa using hsh)⟩
  have hw : render [((1 : Int), (⟨(baseT b).toArray⟩ : ByteArray))] = baseT b := by
    have hne : (ByteArray.mk (baseT b).toArray).size ≠ 0 := by
      show (baseT b).toArray.size ≠ 0
      rw [e1]; simp
    simp [render, rest, word, sgn, hne]
  have e2 := scanI_render (l := [((1 : Int), (⟨(baseT b).toArray⟩ : ByteArray))]) (by simp) (fun t ht => by rw [List.mem_singleton.1 ht]; exact hg)
  have e3 := scanI_render (items_ne _ _ _) (items_ok (show (0 : Int) ≤ 1000000 by omega) hs (small_mill hs))
  have e4 : render (itemsS s) = fmtS s := by unfold itemsS fmtS; rw [fmt_eq]
  unfold itemsS at e3 e4
  rw [e4, e, ← hw, e2] at e3
  obtain ⟨_, _, h3, _⟩ := sumV_iff.1 hs
  have e5 := itemsS_eq (s := s) (fun t ht => (termV_iff.1 (h3 t ht)).1)
  unfold itemsS at e5
  rw [← e3] at e5
  have hm : ((1 : Int), (⟨(baseT b).toArray⟩ : ByteArray)) ∈ s.2 := by
    have hne : (⟨(baseT b).toArray⟩ : ByteArray) ≠ ByteArray.empty := fun e => by
      have := congrArg (fun x : ByteArray => x.data.toList) e
      simp only [e1] at this
      cases this
    split at e5
    · injection e5 with e5 _
      injection e5 with e5 e6
      exact absurd e6 hne
    · have : ((1 : Int), (⟨(baseT b).toArray⟩ : ByteArray)) ∈ s.2 ++ (if s.1 = 0 then [] else [(s.1, ByteArray.empty)]) := by rw [← e5]; exact List.mem_cons_self
      rcases List.mem_append.1 this with h | h
      · exact h
      · split at h
        · cases h
        · injection List.mem_singleton.1 h with _ e6
          exact absurd e6 hne
  have hi := (termV_iff.1 (h3 _ hm)).2.2
  simp only [intName, Bool.and_eq_true, Bool.not_eq_true'] at hi
  unfold baseT at hi
  simp only [baseV, Bool.or_eq_true, decide_eq_true_eq] at hb
  split at hi
  · have := hi.1
    rw [show (ByteArray.mk ([110, 105, 108] : List UInt8).toArray) = ⟨#[110, 105, 108]⟩ from rfl, nil_resv] at this
    cases this
  · rename_i h0
    rw [mk_list] at hi
    rw [hb.resolve_left h0] at hi
    cases hi.2

abbrev Ag := Bool × List Sm × ByteArray
def argV (a : Ag) : Bool := a.2.1.all sumV && (if a.1 then decide (a.2.1.length ≤ 3) && baseV a.2.2 else decide (a.2.1.length = 1) && decide (a.2.2.size = 0))
def headsT (hs : List Sm) : List UInt8 := (hs.map fun h => fmtS h ++ ArgSp.sep).flatten
def fmtA (a : Ag) : List UInt8 := if a.1 then headsT a.2.1 ++ baseT a.2.2 else fmtS (a.2.1.headD (0, []))
def FA (a : Ag) : List UInt8 := if argV a = true then fmtA a else []
theorem argV_list {hs : List Sm} {b : ByteArray} : argV (true, hs, b) = true ↔ (∀ h ∈ hs, sumV h = true) ∧ hs.length ≤ 3 ∧ baseV b = true := by
  simp [argV]
theorem argV_int {hs : List Sm} {b : ByteArray} : argV (false, hs, b) = true ↔ ∃ h, hs = [h] ∧ sumV h = true ∧ b.size = 0 := by
  constructor
  · intro h
    simp only [argV, Bool.and_eq_true, List.all_eq_true, decide_eq_true_eq, Bool.false_eq_true, if_false] at h
    obtain ⟨h1, h2, h3⟩ := h
    obtain ⟨x, rfl⟩ : ∃ x, hs = [x] := by
      match hs, h2 with
      | [x], _ => exact ⟨x, rfl⟩
    exact ⟨x, rfl, h1 x List.mem_cons_self, h3⟩
  · rintro ⟨x, rfl, h1, h2⟩
    simp [argV, h1, h2]
/-- The text's parts. -/
def parts (hs : List Sm) (b : ByteArray) : List (List UInt8) := hs.map fmtS ++ [baseT b]
theorem fmtA_parts (hs : List Sm) (b : ByteArray) : headsT hs ++ baseT b = ArgSp.joinT (parts hs b) := by
  unfold parts headsT
  rw [ArgSp.joinT_snoc, List.map_map]
  rfl
theorem spl_parts : ∀ {hs : List Sm} {b : ByteArray}, (∀ h ∈ hs, sumV h = true) → baseV b = true → ArgSp.spl (headsT hs ++ baseT b) = parts hs b
  | [], b, _, hb => ArgSp.spl_none (base_no hb)
  | h :: hs, b, hh, hb => by
    have e : headsT (h :: hs) ++ baseT b = fmtS h ++ (ArgSp.sep ++ (headsT hs ++ baseT b)) := by
      simp [headsT]
    rw [e, ArgSp.spl_hit _ (fmtS_no (hh h List.mem_cons_self)), spl_parts (fun x hx => hh x (List.mem_cons_of_mem _ hx)) hb]
    rfl
theorem map_inj : ∀ {a b : List Sm}, (∀ h ∈ a, sumV h = true) → (∀ h ∈ b, sumV h = true) → a.map fmtS = b.map fmtS → a = b
  | [], [], _, _, _ => rfl
  | x :: a, y :: b, ha, hb, h => by
    rw [List.map_cons, List.map_cons] at h
    injection h with h1 h2
    rw [fmtS_inj (ha x List.mem_cons_self) (hb y List.mem_cons_self) h1, map_inj (fun h m => ha h (List.mem_cons_of_mem _ m)) (fun h m => hb h (List.mem_cons_of_mem _ m)) h2]
  | [], _ :: _, _, _, h => by simp at h
  | _ :: _, [], _, _, h => by simp at h
theorem parts_inj {a b : List Sm} {s t : ByteArray} (ha : ∀ h ∈ a, sumV h = true) (hb : ∀ h ∈ b, sumV h = true) (hs : baseV s = true) (ht : baseV t = true) (h : parts a s = parts b t) : a = b ∧ s = t := by
  unfold parts at h
  have hl := congrArg List.length h
  simp only [List.length_append, List.length_map, List.length_singleton] at hl
  obtain ⟨h1, h2⟩ := List.append_inj h (by simp; omega)
  injection h2 with h2 _
  exact ⟨map_inj ha hb h1, base_inj hs ht h2⟩
theorem last_parts (hs : List Sm) (b : ByteArray) : (parts hs b).getLast? = some (baseT b) := by simp [parts]
theorem fmtA_inj {a b : Ag} (ha : argV a = true) (hb : argV b = true) (h : fmtA a = fmtA b) : a = b := by
  obtain ⟨p, hs, s⟩ := a
  obtain ⟨q, ks, t⟩ := b
  cases p with
  | true =>
    obtain ⟨a1, a2, a3⟩ := argV_list.1 ha
    cases q with
    | true =>
      obtain ⟨b1, b2, b3⟩ := argV_list.1 hb
      have e : headsT hs ++ baseT s = headsT ks ++ baseT t := h
      have e2 := congrArg ArgSp.spl e
      rw [spl_parts a1 a3, spl_parts b1 b3] at e2
      obtain ⟨rfl, rfl⟩ := parts_inj a1 b1 a3 b3 e2
      rfl
    | false =>
      obtain ⟨k, rfl, b1, b2⟩ := argV_int.1 hb
      have e : headsT hs ++ baseT s = fmtS k := h
      have e2 := congrArg ArgSp.spl e
      rw [spl_parts a1 a3, ArgSp.spl_none (fmtS_no b1)] at e2
      have e3 := last_parts hs s
      rw [e2] at e3
      exact absurd (by simpa using e3) (fmtS_base b1 a3)
  | false =>
    obtain ⟨k, rfl, a1, a2⟩ := argV_int.1 ha
    cases q with
    | true =>
      obtain ⟨b1, b2, b3⟩ := argV_list.1 hb
      have e : fmtS k = headsT ks ++ baseT t := h
      have e2 := congrArg ArgSp.spl e
      rw [spl_parts b1 b3, ArgSp.spl_none (fmtS_no a1)] at e2
      have e3 := last_parts ks t
      rw [← e2] at e3
      exact absurd (by simpa using e3) (fmtS_base a1 b3)
    | false =>
      obtain ⟨l, rfl, b1, b2⟩ := argV_int.1 hb
      have e : fmtS k = fmtS l := h
      rw [fmtS_inj a1 b1 e, show s = t from toList_inj (by rw [size_zero a2, size_zero b2])]
/-- The text is that of the argument, which a parser can read. -/
def IsA (t : List UInt8) (a : Ag) : Prop := argV a = true ∧ (∀ h ∈ a.2.1, SmallS 999999 h) ∧ fmtA a = t
theorem isA_unique {t : List UInt8} {a b : Ag} (ha : IsA t a) (hb : IsA t b) : a = b := fmtA_inj ha.1 hb.1 (ha.2.2.trans hb.2.2.symm)
open Classical in
/-- The argument whose representation the text is. -/
noncomputable def parseA (t : List UInt8) : Option Ag := if h : ∃ a, IsA t a then some (Classical.choose h) else none
theorem parseA_some {t : List UInt8} {a : Ag} (h : IsA t a) : parseA t = some a := by
  have hx : ∃ a, IsA t a := ⟨a, h⟩
  unfold parseA
  rw [dif_pos hx]
  exact congrArg some (isA_unique (Classical.choose_spec hx) h)
theorem parseA_none {t : List UInt8} (h : ∀ a, ¬ IsA t a) : parseA t = none := by
  unfold parseA
  rw [dif_neg (fun ⟨a, ha⟩ => h a ha)]
theorem parseA_is {t : List UInt8} {a : Ag} (h : parseA t = some a) : IsA t a := by
  unfold parseA at h
  split at h
  · rename_i hx
    injection h with h
    rw [← h]
    exact Classical.choose_spec hx
  · cases h
end ArgM
end Go.Proofs.Ytbdpohcababccaa
