import Derived.Test.YtbdpohcababccaaNumMath
import Derived.Test.YtbdpohcababccaaNameMath
import Derived.Test.YtbdpohcababccaaSplitMath
import Derived.Lib.SlicesS
/-
  Plain mathematics of the text form of linear expressions: what is written ('fmt'), what is read ('parseL'). Imports nothing of the program.
-/
namespace Go.Proofs.Ytbdpohcababccaa
namespace TextM
open Go.Lib (itoa decDigits idxOfS)
open NameM (letter digit)

/-- A term: its number and its name; the constant has no name. -/
abbrev TItem := Int × ByteArray

def word (x : Int) (nm : ByteArray) : List UInt8 := if x.natAbs = 1 ∧ nm.size ≠ 0 then nm.data.toList else itoa x.natAbs ++ nm.data.toList
def sgn (neg first : Bool) : List UInt8 := if first then (if neg then [45] else []) else (if neg then [32, 45, 32] else [32, 43, 32])
def addT (t : List UInt8) (p : TItem) : List UInt8 := t ++ (sgn (decide (p.1 < 0)) t.isEmpty ++ word p.1 p.2)
def addU (t : List UInt8) (p : TItem) : List UInt8 := if p.1 = 0 then t else addT t p
def terms (ps : List TItem) : List UInt8 := ps.foldl addU []
def mk (ss : List ByteArray) (z : Int) (zs : List Int) : List TItem := zs.zip ss ++ [(z, ByteArray.empty)]
/-- The representation. -/
def fmt (ss : List ByteArray) (z : Int) (zs : List Int) : List UInt8 := if terms (mk ss z zs) = [] then [48] else terms (mk ss z zs)

def rest : List TItem → List UInt8
  | [] => []
  | p :: r => sgn (decide (p.1 < 0)) false ++ (word p.1 p.2 ++ rest r)
def render : List TItem → List UInt8
  | [] => []
  | p :: r => sgn (decide (p.1 < 0)) true ++ (word p.1 p.2 ++ rest r)

theorem itoa_nat (n : Nat) : itoa (n : Int) = decDigits n := by rw [NumM.itoa_nn (by omega), Int.toNat_natCast]
theorem size_list (s : ByteArray) : s.data.toList.length = s.size := by simp
theorem size_zero {s : ByteArray} (h : s.size = 0) : s.data.toList = [] := List.eq_nil_of_length_eq_zero (by rw [size_list, h])
theorem empty_list : ByteArray.empty.data.toList = [] := rfl
theorem mk_list (s : ByteArray) : (⟨s.data.toList.toArray⟩ : ByteArray) = s := by cases s; simp

theorem word_ne (x : Int) (nm : ByteArray) : word x nm ≠ [] := by
  unfold word
  split
  · rename_i h
    intro e
    have := congrArg List.length e
    rw [size_list] at this
    exact h.2 (by simpa using this)
  · rw [itoa_nat]
    intro e
    exact NumM.decDigits_ne _ (List.append_eq_nil_iff.1 e).1

theorem rest_snoc (p : TItem) : ∀ l : List TItem, rest (l ++ [p]) = rest l ++ (sgn (decide (p.1 < 0)) false ++ word p.1 p.2)
  | [] => by simp [rest]
  | q :: l => by simp only [List.cons_append, rest, rest_snoc p l, List.append_assoc]
theorem render_snoc (p : TItem) (l : List TItem) : addT (render l) p = render (l ++ [p]) := by
  cases l with
  | nil => simp [addT, render, rest]
  | cons q r =>
    have hne : (render (q :: r)).isEmpty = false := by
      rw [List.isEmpty_eq_false_iff]
      intro e
      have := (List.append_eq_nil_iff.1 (List.append_eq_nil_iff.1 e).2).1
      exact word_ne _ _ this
    unfold addT
    rw [hne, List.cons_append, render, render, rest_snoc]
    simp only [List.append_assoc]
theorem terms_gen : ∀ (ps l : List TItem), ps.foldl addU (render l) = render (l ++ ps.filter fun p => decide (p.1 ≠ 0))
  | [], l => by simp
  | p :: ps, l => by
    rw [List.foldl_cons]
    by_cases h : p.1 = 0
    · rw [addU, if_pos h, terms_gen ps l, List.filter_cons_of_neg (by simp [h])]
    · rw [addU, if_neg h, render_snoc, terms_gen ps, List.filter_cons_of_pos (by simp [h])]
      simp
theorem terms_eq (ps : List TItem) : terms ps = render (ps.filter fun p => decide (p.1 ≠ 0)) := by
  have := terms_gen ps []
  simpa [terms, render] using this
theorem render_nil {l : List TItem} (h : render l = []) : l = [] := by
  cases l with
  | nil => rfl
  | cons q r => exact absurd (List.append_eq_nil_iff.1 (List.append_eq_nil_iff.1 h).2).1 (word_ne _ _)

/-- The terms that are written. -/
def items (ss : List ByteArray) (z : Int) (zs : List Int) : List TItem :=
  if ((mk ss z zs).filter fun p => decide (p.1 ≠ 0)) = [] then [(0, ByteArray.empty)] else (mk ss z zs).filter fun p => decide (p.1 ≠ 0)
theorem items_ne (ss : List ByteArray) (z : Int) (zs : List Int) : items ss z zs ≠ [] := by
  unfold items; split
  · simp
  · assumption
theorem fmt_eq (ss : List ByteArray) (z : Int) (zs : List Int) : fmt ss z zs = render (items ss z zs) := by
  unfold fmt items
  rw [terms_eq]
  by_cases h : ((mk ss z zs).filter fun p => decide (p.1 ≠ 0)) = []
  · rw [h, if_pos rfl, if_pos (by rfl)]
    have h0 : decDigits 0 = [48] := by rw [Lib.decDigits]; rfl
    show [48] = sgn (decide ((0 : Int) < 0)) true ++ (word 0 ByteArray.empty ++ rest [])
    rw [word, if_neg (by decide), show ((0 : Int).natAbs : Int) = ((0 : Nat) : Int) from rfl, itoa_nat, h0]
    rfl
  · rw [if_neg h, if_neg (fun e => h (render_nil e))]
theorem fmt_ne (ss : List ByteArray) (z : Int) (zs : List Int) : fmt ss z zs ≠ [] := by
  rw [fmt_eq]
  intro e
  exact items_ne ss z zs (render_nil e)

/-- A term whose number is within the limit, with a name or none. -/
def Good (hi : Int) (t : TItem) : Prop := (-hi ≤ t.1 ∧ t.1 ≤ hi) ∧ (t.2.size = 0 ∨ NameM.shape t.2.data.toList = true)

theorem digits_digit (u : Nat) : ∀ b ∈ decDigits u, digit b = true := fun b hb => by
  obtain ⟨j, hj⟩ := List.getElem?_of_mem hb
  obtain ⟨d, hd⟩ := Lib.digit_of_decFrom _ _ _ (NumM.decFrom_decDigits u) j b hj
  have := Lib.digitVal_eq hd
  simp only [digit, Bool.and_eq_true, decide_eq_true_eq]
  omega
theorem shape_head {l : List UInt8} (h : NameM.shape l = true) : ∃ c r, l = c :: r ∧ letter c = true ∧ ∀ d ∈ r, (letter d || digit d) = true := by
  cases l with
  | nil => simp [NameM.shape] at h
  | cons c r =>
    simp only [NameM.shape, Bool.and_eq_true, List.all_eq_true] at h
    exact ⟨c, r, rfl, h.1, h.2⟩
theorem letter_not {c : UInt8} (h : letter c = true) : digit c = false := by
  simp only [letter, digit, Bool.and_eq_true, decide_eq_true_eq] at h ⊢
  rw [Bool.and_eq_false_iff]
  right
  simp; omega
theorem plain_of {c : UInt8} (h : (letter c || digit c) = true) : c ≠ 32 ∧ c ≠ 43 ∧ c ≠ 45 := by
  simp only [letter, digit, Bool.or_eq_true, Bool.and_eq_true, decide_eq_true_eq] at h
  refine ⟨?_, ?_, ?_⟩ <;> (rintro rfl; simp at h)
/-- No byte of a term is a blank or a sign. -/
theorem word_plain {hi : Int} {t : TItem} (h : Good hi t) : ∀ c ∈ word t.1 t.2, c ≠ 32 ∧ c ≠ 43 ∧ c ≠ 45 := fun c hc => by
  have hn : ∀ c ∈ t.2.data.toList, c ≠ 32 ∧ c ≠ 43 ∧ c ≠ 45 := fun c hc => by
    rcases h.2 with h0 | h0
    · rw [size_zero h0] at hc; cases hc
    · obtain ⟨a, r, e, h1, h2⟩ := shape_head h0
      rw [e] at hc
      rcases List.mem_cons.1 hc with rfl | hc
      · exact plain_of (by rw [h1]; rfl)
      · exact plain_of (h2 c hc)
  unfold word at hc
  split at hc
  · exact hn c hc
  · rw [itoa_nat] at hc
    rcases List.mem_append.1 hc with hc | hc
    · exact plain_of (by rw [digits_digit _ c hc]; simp)
    · exact hn c hc

/-- What is read off a term without its sign. -/
def readW (hi : Int) (l : List UInt8) : TItem := (if l.takeWhile digit = [] then 1 else (NumM.rd 0 hi (l.takeWhile digit)).getD 0, ⟨(l.dropWhile digit).toArray⟩)
theorem span_of {a b : List UInt8} (ha : ∀ c ∈ a, digit c = true) (hb : ∀ c, b.head? = some c → digit c = false) : (a ++ b).takeWhile digit = a ∧ (a ++ b).dropWhile digit = b := by
  induction a with
  | nil =>
    cases b with
    | nil => exact ⟨rfl, rfl⟩
    | cons c b => simp [hb c rfl]
  | cons x a ih =>
    have := ih (fun c hc => ha c (List.mem_cons_of_mem _ hc))
    simp [ha x List.mem_cons_self, this]
theorem name_head {hi : Int} {t : TItem} (h : Good hi t) : ∀ c, t.2.data.toList.head? = some c → digit c = false := fun c hc => by
  rcases h.2 with h0 | h0
  · rw [size_zero h0] at hc; cases hc
  · obtain ⟨a, r, e, h1, _⟩ := shape_head h0
    rw [e] at hc
    obtain rfl : a = c := by simpa using hc
    exact letter_not h1
/-- The term falls apart into its digits and its name. -/
theorem word_span {hi : Int} {t : TItem} (h : Good hi t) : (word t.1 t.2).takeWhile digit = (if t.1.natAbs = 1 ∧ t.2.size ≠ 0 then [] else itoa t.1.natAbs) ∧ (word t.1 t.2).dropWhile digit = t.2.data.toList := by
  unfold word
  split
  · exact span_of (a := []) (fun c hc => by cases hc) (name_head h)
  · exact span_of (fun c hc => digits_digit _ c (by rwa [itoa_nat] at hc)) (name_head h)
theorem rd_abs {hi : Int} {x : Int} (h : -hi ≤ x ∧ x ≤ hi) : NumM.rd 0 hi (itoa x.natAbs) = some (x.natAbs : Int) := NumM.rd_some.2 ⟨by omega, by omega, rfl⟩
theorem readW_word {hi : Int} {t : TItem} (h : Good hi t) : readW hi (word t.1 t.2) = ((t.1.natAbs : Int), t.2) := by
  obtain ⟨h1, h2⟩ := word_span h
  unfold readW
  rw [h1, h2, mk_list]
  by_cases hc : t.1.natAbs = 1 ∧ t.2.size ≠ 0
  · rw [if_pos hc, if_pos rfl, hc.1]; rfl
  · rw [if_neg hc, if_neg (by rw [itoa_nat]; exact NumM.decDigits_ne _), rd_abs h.1]; rfl
theorem word_head {hi : Int} {t : TItem} (h : Good hi t) : (word t.1 t.2).head? ≠ some 45 ∧ (word t.1 t.2).head? ≠ some 43 := by
  cases e : word t.1 t.2 with
  | nil => exact absurd e (word_ne _ _)
  | cons c r =>
    have := word_plain h c (by rw [e]; exact List.mem_cons_self)
    simp only [List.head?_cons, ne_eq, Option.some.injEq]
    exact ⟨this.2.2, this.2.1⟩

/-- The program's way: blanks struck, cut in front of each sign, each part read. -/
def isSig (c : UInt8) : Bool := c == 43 || c == 45
def cutGo : List UInt8 → List UInt8 → List (List UInt8)
  | cur, [] => [cur]
  | cur, c :: r => if isSig c = true ∧ cur ≠ [] then cur :: cutGo [c] r else cutGo (cur ++ [c]) r
def strip43 (l : List UInt8) : List UInt8 := if l.head? = some 43 then l.tail else l
def readT (hi : Int) (l : List UInt8) : TItem :=
  (if l.head? = some 45 then -(readW hi (strip43 (NumM.body l))).1 else (readW hi (strip43 (NumM.body l))).1, (readW hi (strip43 (NumM.body l))).2)
def scanI (hi : Int) (s : List UInt8) : List TItem := (cutGo [] (s.filter fun c => c != 32)).map (readT hi)

def sig (p : TItem) : UInt8 := if p.1 < 0 then 45 else 43
def comp : List TItem → List UInt8
  | [] => []
  | p :: r => sig p :: (word p.1 p.2 ++ comp r)
theorem filter_plain {l : List UInt8} (h : ∀ c ∈ l, c ≠ 32 ∧ c ≠ 43 ∧ c ≠ 45) : (l.filter fun c => c != 32) = l :=
  List.filter_eq_self.2 fun c hc => by simpa using (h c hc).1
theorem filter_rest {hi : Int} : ∀ l : List TItem, (∀ t ∈ l, Good hi t) → ((rest l).filter fun c => c != 32) = comp l
  | [], _ => rfl
  | p :: r, h => by
    have hp := h p List.mem_cons_self
    rw [rest, comp, List.filter_append, List.filter_append, filter_plain (word_plain hp), filter_rest r (fun t ht => h t (List.mem_cons_of_mem _ ht))]
    unfold sgn sig
    by_cases hn : p.1 < 0 <;> simp [hn]
theorem cutGo_plain : ∀ (w cur t : List UInt8), (∀ c ∈ w, c ≠ 32 ∧ c ≠ 43 ∧ c ≠ 45) → cutGo cur (w ++ t) = cutGo (cur ++ w) t
  | [], cur, t, _ => by simp
  | c :: w, cur, t, h => by
    have hc := h c List.mem_cons_self
    have hs : isSig c = false := by simp [isSig, hc.2.1, hc.2.2]
    rw [List.cons_append, cutGo, if_neg (by simp [hs]), cutGo_plain w (cur ++ [c]) t (fun d hd => h d (List.mem_cons_of_mem _ hd))]
    simp
theorem sig_is (p : TItem) : isSig (sig p) = true := by unfold sig; split <;> rfl
theorem cutGo_comp {hi : Int} : ∀ (l : List TItem) (cur : List UInt8), (∀ t ∈ l, Good hi t) → cur ≠ [] → cutGo cur (comp l) = cur :: l.map fun p => sig p :: word p.1 p.2
  | [], cur, _, _ => rfl
  | p :: r, cur, h, hc => by
    rw [comp, cutGo, if_pos ⟨sig_is p, hc⟩, cutGo_plain _ _ _ (word_plain (h p List.mem_cons_self)), cutGo_comp r _ (fun t ht => h t (List.mem_cons_of_mem _ ht)) (by simp)]
    rfl
theorem read_sig {hi : Int} {t : TItem} (h : Good hi t) : readT hi (sig t :: word t.1 t.2) = t := by
  obtain ⟨_, h43⟩ := word_head h
  unfold readT NumM.body strip43 sig
  by_cases hn : t.1 < 0
  · rw [if_pos hn]
    simp only [List.head?_cons, if_true, List.tail_cons]
    rw [if_neg h43, readW_word h]
    ext1
    · show -((t.1.natAbs : Nat) : Int) = t.1; omega
    · rfl
  · rw [if_neg hn]
    simp only [List.head?_cons, List.tail_cons, show ¬ (some (43 : UInt8) = some 45) by decide, if_false, if_true]
    rw [readW_word h]
    ext1
    · show ((t.1.natAbs : Nat) : Int) = t.1; omega
    · rfl
theorem read_first {hi : Int} {t : TItem} (h : Good hi t) : readT hi (sgn (decide (t.1 < 0)) true ++ word t.1 t.2) = t := by
  by_cases hn : t.1 < 0
  · have := read_sig h
    simpa [sgn, sig, hn] using this
  · obtain ⟨h45, h43⟩ := word_head h
    have e : sgn (decide (t.1 < 0)) true = [] := by simp [sgn, hn]
    rw [e, List.nil_append]
    unfold readT NumM.body strip43
    rw [if_neg h45, if_neg h45, if_neg h43, readW_word h]
    ext1
    · show ((t.1.natAbs : Nat) : Int) = t.1; omega
    · rfl
/-- What was written is read. -/
theorem scanI_render {hi : Int} {l : List TItem} (hl : l ≠ []) (h : ∀ t ∈ l, Good hi t) : scanI hi (render l) = l := by
  cases l with
  | nil => exact absurd rfl hl
  | cons p r =>
    have hp := h p List.mem_cons_self
    have hr : ∀ t ∈ r, Good hi t := fun t ht => h t (List.mem_cons_of_mem _ ht)
    have hf : ((render (p :: r)).filter fun c => c != 32) = sgn (decide (p.1 < 0)) true ++ (word p.1 p.2 ++ comp r) := by
      rw [render, List.filter_append, List.filter_append, filter_plain (word_plain hp), filter_rest r hr]
      congr 1
      unfold sgn
      by_cases hn : p.1 < 0 <;> simp [hn]
    have hcut : cutGo [] (sgn (decide (p.1 < 0)) true ++ (word p.1 p.2 ++ comp r)) = (sgn (decide (p.1 < 0)) true ++ word p.1 p.2) :: r.map fun p => sig p :: word p.1 p.2 := by
      by_cases hn : p.1 < 0
      · have e : sgn (decide (p.1 < 0)) true = [45] := by simp [sgn, hn]
        rw [e, List.cons_append, List.nil_append, cutGo, if_neg (by simp), cutGo_plain _ _ _ (word_plain hp), cutGo_comp r _ hr (by simp)]
        simp
      · have e : sgn (decide (p.1 < 0)) true = [] := by simp [sgn, hn]
        rw [e, List.nil_append, List.nil_append, cutGo_plain _ _ _ (word_plain hp), cutGo_comp r _ hr (by simpa using word_ne _ _)]
        simp
    unfold scanI
    rw [hf, hcut, List.map_cons, read_first hp, List.map_map]
    congr 1
    exact (List.map_congr_left (fun t ht => read_sig (hr t ht))).trans (List.map_id _)

/-- The model's way: cut at the blanks; each second part is a term, the part ahead of it its sign. -/
def readS (hi : Int) (l : List UInt8) : TItem :=
  if l.takeWhile digit = [] then (1, ⟨l.toArray⟩) else match NumM.rd 0 hi (l.takeWhile digit) with
    | some n => (n, ⟨(l.dropWhile digit).toArray⟩)
    | none => (0, ⟨#[63]⟩)
def negI (b : Bool) (t : TItem) : TItem := (if b then -t.1 else t.1, t.2)
def termS (hi : Int) (ws : List (List UInt8)) (j : Nat) : TItem :=
  if j = 0 then negI (decide ((ws.getD 0 []).head? = some 45)) (readS hi (NumM.body (ws.getD 0 [])))
  else negI (decide (ws.getD (2 * j - 1) [] = [45])) (readS hi (ws.getD (2 * j) []))
def scanS (hi : Int) (s : List UInt8) : List TItem := (List.range ((SplitM.sp 32 s).length / 2 + (SplitM.sp 32 s).length % 2)).map (termS hi (SplitM.sp 32 s))

theorem readS_word {hi : Int} {t : TItem} (h : Good hi t) : readS hi (word t.1 t.2) = ((t.1.natAbs : Int), t.2) := by
  obtain ⟨h1, h2⟩ := word_span h
  unfold readS
  rw [h1, h2, mk_list]
  by_cases hc : t.1.natAbs = 1 ∧ t.2.size ≠ 0
  · have hw : word t.1 t.2 = t.2.data.toList := by rw [word, if_pos hc]
    rw [if_pos hc, if_pos rfl, hc.1, hw, mk_list]; rfl
  · rw [if_neg hc, if_neg (by rw [itoa_nat]; exact NumM.decDigits_ne _), rd_abs h.1]
def pairs : List TItem → List (List UInt8)
  | [] => []
  | p :: r => [sig p] :: word p.1 p.2 :: pairs r
theorem pairs_len : ∀ l : List TItem, (pairs l).length = 2 * l.length
  | [] => rfl
  | p :: r => by simp [pairs, pairs_len r]; omega
theorem pairs_get : ∀ (l : List TItem) (j : Nat) (h : j < l.length), (pairs l).getD (2 * j) [] = [sig l[j]] ∧ (pairs l).getD (2 * j + 1) [] = word l[j].1 l[j].2
  | p :: r, 0, _ => by simp [pairs]
  | p :: r, j + 1, h => by
    have := pairs_get r j (by simpa using h)
    rw [show 2 * (j + 1) = 2 * j + 1 + 1 by omega]
    simpa [pairs] using this
theorem sp_rest {hi : Int} : ∀ (l : List TItem) (w : List UInt8), (∀ t ∈ l, Good hi t) → 32 ∉ w → SplitM.sp 32 (w ++ rest l) = w :: pairs l
  | [], w, _, hw => by rw [rest, List.append_nil, SplitM.sp_none 32 w hw]; rfl
  | p :: r, w, h, hw => by
    have hp := h p List.mem_cons_self
    have hwd : 32 ∉ word p.1 p.2 := fun hm => (word_plain hp 32 hm).1 rfl
    have e : rest (p :: r) = 32 :: ([sig p] ++ 32 :: (word p.1 p.2 ++ rest r)) := by
      rw [show rest (p :: r) = sgn (decide (p.1 < 0)) false ++ (word p.1 p.2 ++ rest r) from rfl]
      unfold sgn sig
      by_cases hn : p.1 < 0 <;> simp [hn]
    have hs : 32 ∉ [sig p] := by unfold sig; split <;> decide
    rw [e, SplitM.sp_hit 32 w _ hw, SplitM.sp_hit 32 [sig p] _ hs, sp_rest r _ (fun t ht => h t (List.mem_cons_of_mem _ ht)) hwd]
    rfl
theorem neg_abs (t : TItem) : negI (decide (t.1 < 0)) ((t.1.natAbs : Int), t.2) = t := by
  unfold negI
  ext1
  · simp only [decide_eq_true_eq]
    split <;> omega
  · rfl
theorem scanS_render {hi : Int} {l : List TItem} (hl : l ≠ []) (h : ∀ t ∈ l, Good hi t) : scanS hi (render l) = l := by
  cases l with
  | nil => exact absurd rfl hl
  | cons p r =>
    have hp := h p List.mem_cons_self
    have hr : ∀ t ∈ r, Good hi t := fun t ht => h t (List.mem_cons_of_mem _ ht)
    have hw0 : 32 ∉ sgn (decide (p.1 < 0)) true ++ word p.1 p.2 := by
      intro hm
      rcases List.mem_append.1 hm with hm | hm
      · unfold sgn at hm
        by_cases hn : p.1 < 0 <;> simp [hn] at hm
      · exact (word_plain hp 32 hm).1 rfl
    have hsp : SplitM.sp 32 (render (p :: r)) = (sgn (decide (p.1 < 0)) true ++ word p.1 p.2) :: pairs r := by
      rw [render, ← List.append_assoc, sp_rest r _ hr hw0]
    unfold scanS
    rw [hsp]
    refine List.ext_getElem ?_ (fun j h1 h2 => ?_)
    · simp [pairs_len]; omega
    · rw [List.getElem_map, List.getElem_range]
      cases j with
      | zero =>
        obtain ⟨h45, _⟩ := word_head hp
        unfold termS NumM.body
        simp only [if_true, List.getD_cons_zero, List.getElem_cons_zero]
        by_cases hn : p.1 < 0
        · have e : sgn (decide (p.1 < 0)) true = [45] := by simp [sgn, hn]
          rw [e]
          simp only [List.cons_append, List.nil_append, List.head?_cons, if_true, List.tail_cons, decide_true]
          rw [readS_word hp]
          have := neg_abs p
          simpa [hn] using this
        · have e : sgn (decide (p.1 < 0)) true = [] := by simp [sgn, hn]
          rw [e, List.nil_append, if_neg h45, readS_word hp]
          have := neg_abs p
          simpa [hn, h45] using this
      | succ j =>
        have hj : j < r.length := by simpa using h2
        obtain ⟨g1, g2⟩ := pairs_get r j hj
        have ht := hr r[j] (List.getElem_mem hj)
        have e1 : (2 * (j + 1) - 1) = 2 * j + 1 := by omega
        unfold termS
        rw [if_neg (by omega), e1, show 2 * (j + 1) = 2 * j + 1 + 1 by omega, List.getD_cons_succ, List.getD_cons_succ, g1, g2, readS_word ht, List.getElem_cons_succ]
        have hs : decide ([sig r[j]] = [(45 : UInt8)]) = decide (r[j].1 < 0) := by
          unfold sig
          by_cases hn : r[j].1 < 0 <;> simp [hn]
        rw [hs]
        exact neg_abs _

theorem rd_small {lo hi : Int} {l : List UInt8} {n : Int} (h : NumM.rd lo hi l = some n) : lo ≤ n ∧ n ≤ hi := ⟨(NumM.rd_some.1 h).1, (NumM.rd_some.1 h).2.1⟩
theorem readW_small {hi : Int} (h1 : 1 ≤ hi) (l : List UInt8) : 0 ≤ (readW hi l).1 ∧ (readW hi l).1 ≤ hi := by
  unfold readW
  simp only
  split
  · omega
  · cases e : NumM.rd 0 hi (l.takeWhile digit) with
    | none => simp; omega
    | some n => exact rd_small e
theorem readT_small {hi : Int} (h1 : 1 ≤ hi) (l : List UInt8) : -hi ≤ (readT hi l).1 ∧ (readT hi l).1 ≤ hi := by
  have := readW_small h1 (strip43 (NumM.body l))
  unfold readT
  simp only
  split <;> omega
theorem readS_small {hi : Int} (h1 : 1 ≤ hi) (l : List UInt8) : 0 ≤ (readS hi l).1 ∧ (readS hi l).1 ≤ hi := by
  unfold readS
  split
  · simp; omega
  · split
    · rename_i e; exact rd_small e
    · simp; omega
theorem termS_small {hi : Int} (h1 : 1 ≤ hi) (ws : List (List UInt8)) (j : Nat) : -hi ≤ (termS hi ws j).1 ∧ (termS hi ws j).1 ≤ hi := by
  have a := readS_small h1 (NumM.body (ws.getD 0 []))
  have b := readS_small h1 (ws.getD (2 * j) [])
  unfold termS negI
  split <;> (simp only; split <;> omega)

/-- The terms are a reading of the text: small, and right where the text is a representation. -/
def Scans (s : List UInt8) (ts : List TItem) : Prop :=
  (∀ t ∈ ts, -999999 ≤ t.1 ∧ t.1 ≤ 999999) ∧ ∀ its : List TItem, its ≠ [] → (∀ t ∈ its, Good 999999 t) → render its = s → ts = its
theorem scansI (s : List UInt8) : Scans s (scanI 999999 s) :=
  ⟨fun t ht => by
    obtain ⟨l, _, rfl⟩ := List.mem_map.1 ht
    exact readT_small (by omega) l, fun its h1 h2 h3 => by rw [← h3]; exact scanI_render h1 h2⟩
theorem scansS (s : List UInt8) : Scans s (scanS 999999 s) :=
  ⟨fun t ht => by
    obtain ⟨l, _, rfl⟩ := List.mem_map.1 ht
    exact termS_small (by omega) _ l, fun its h1 h2 h3 => by rw [← h3]; exact scanS_render h1 h2⟩

/-- One term laid into the expression. -/
def step (ss : List ByteArray) (l : Int × List Int) (t : TItem) : Int × List Int :=
  if t.2.size = 0 then (t.1, l.2) else if 0 ≤ idxOfS ss t.2 ∧ idxOfS ss t.2 < l.2.length then (l.1, l.2.set (idxOfS ss t.2).toNat t.1) else l
def R (ss : List ByteArray) (ts : List TItem) : Int × List Int := ts.foldl (step ss) (0, List.replicate (min ss.length 8) 0)

def Small (hi : Int) (l : Int × List Int) : Prop := (-hi ≤ l.1 ∧ l.1 ≤ hi) ∧ ∀ x ∈ l.2, -hi ≤ x ∧ x ≤ hi
theorem step_len (ss : List ByteArray) (l : Int × List Int) (t : TItem) : (step ss l t).2.length = l.2.length := by
  unfold step
  split
  · rfl
  · split
    · simp
    · rfl
theorem step_small {hi : Int} {ss : List ByteArray} {l : Int × List Int} {t : TItem} (h : Small hi l) (ht : -hi ≤ t.1 ∧ t.1 ≤ hi) : Small hi (step ss l t) := by
  unfold step
  split
  · exact ⟨ht, h.2⟩
  · split
    · refine ⟨h.1, fun x hx => ?_⟩
      rcases List.mem_or_eq_of_mem_set hx with hx | rfl
      · exact h.2 x hx
      · exact ht
    · exact h
theorem fold_small {hi : Int} {ss : List ByteArray} : ∀ (ts : List TItem) (l : Int × List Int), Small hi l → (∀ t ∈ ts, -hi ≤ t.1 ∧ t.1 ≤ hi) → Small hi (ts.foldl (step ss) l) ∧ (ts.foldl (step ss) l).2.length = l.2.length
  | [], l, h, _ => ⟨h, rfl⟩
  | t :: ts, l, h, ht => by
    have := fold_small (ss := ss) ts (step ss l t) (step_small h (ht t List.mem_cons_self)) (fun u hu => ht u (List.mem_cons_of_mem _ hu))
    rw [step_len] at this
    exact this
theorem R_small {hi : Int} (h0 : 0 ≤ hi) {ss : List ByteArray} {ts : List TItem} (ht : ∀ t ∈ ts, -hi ≤ t.1 ∧ t.1 ≤ hi) : Small hi (R ss ts) ∧ (R ss ts).2.length = min ss.length 8 := by
  have := fold_small (ss := ss) ts (0, List.replicate (min ss.length 8) 0) ⟨⟨by omega, by omega⟩, fun x hx => by
    have := (List.mem_replicate.1 hx).2
    omega⟩ ht
  simpa [R] using this

/-- The names can be those of the variables of an expression. -/
def Names (ss : List ByteArray) : Prop := ss.length ≤ 8 ∧ (∀ (i j : Nat) s, ss[i]? = some s → ss[j]? = some s → i = j) ∧ ∀ s ∈ ss, NameM.shape s.data.toList = true

theorem idx_of {ss : List ByteArray} (h : ∀ (i j : Nat) s, ss[i]? = some s → ss[j]? = some s → i = j) {k : Nat} {s : ByteArray} (hk : ss[k]? = some s) : idxOfS ss s = k := by
  have hl := (List.getElem?_eq_some_iff.1 hk).1
  have := Lib.idxOfS_hit ss ss.length k s hl (Nat.le_refl _) (by rw [List.getD, hk]; rfl) (fun j hj e => by
    have hjl : j < ss.length := by omega
    have : ss[j]? = some s := by
      rw [List.getElem?_eq_getElem hjl]
      rw [List.getD, List.getElem?_eq_getElem hjl] at e
      exact congrArg some e
    have := h j k s this hk
    omega)
  rwa [List.take_length] at this

theorem fold_zip {ss : List ByteArray} (hs : Names ss) : ∀ (us : List ByteArray) (zs : List Int) (pre : List Int) (pre2 : List ByteArray), ss = pre2 ++ us → pre.length = pre2.length → zs.length = us.length →
    ((zs.zip us).filter fun p => decide (p.1 ≠ 0)).foldl (step ss) (0, pre ++ List.replicate us.length 0) = (0, pre ++ zs)
  | [], [], pre, _, _, _, _ => by simp
  | [], _ :: _, _, _, _, _, h => by simp at h
  | _ :: _, [], _, _, _, _, h => by simp at h
  | u :: us, z :: zs, pre, pre2, he, hl, hlen => by
    have ih := fold_zip hs us zs (pre ++ [z]) (pre2 ++ [u]) (by rw [he]; simp) (by simp [hl]) (by simpa using hlen)
    have hk : ss[pre.length]? = some u := by rw [he, hl]; simp
    have hi := idx_of hs.2.1 hk
    have hu : u.size ≠ 0 := by
      have := NameM.shape_pos (hs.2.2 u (List.mem_of_getElem? hk))
      omega
    simp only [List.append_assoc, List.cons_append, List.nil_append] at ih
    rw [List.zip_cons_cons]
    by_cases hz : z = 0
    · rw [List.filter_cons_of_neg (by simp [hz])]
      subst hz
      simpa [List.replicate_succ] using ih
    · rw [List.filter_cons_of_pos (by simp [hz]), List.foldl_cons]
      have e : step ss (0, pre ++ List.replicate (u :: us).length 0) (z, u) = (0, pre ++ z :: List.replicate us.length 0) := by
        unfold step
        simp only
        rw [if_neg hu, hi, if_pos ⟨by omega, by simp; omega⟩, Int.toNat_natCast, List.set_append_right _ _ (Nat.le_refl _), Nat.sub_self]
        simp [List.replicate_succ]
      rw [e, ih]
/-- What was written is laid again. -/
theorem R_items {ss : List ByteArray} (hs : Names ss) (z : Int) (zs : List Int) (hl : zs.length = ss.length) : R ss (items ss z zs) = (z, zs) := by
  have hmin : min ss.length 8 = ss.length := Nat.min_eq_left hs.1
  have hz := fold_zip hs ss zs [] [] rfl rfl hl
  simp only [List.nil_append] at hz
  have hstep : ∀ l : Int × List Int, step ss l (z, ByteArray.empty) = (z, l.2) := fun l => by
    unfold step; rw [if_pos (by rfl)]
  have hstep0 : ∀ l : Int × List Int, step ss l (0, ByteArray.empty) = (0, l.2) := fun l => by
    unfold step; rw [if_pos (by rfl)]
  have hsplit : ((mk ss z zs).filter fun p => decide (p.1 ≠ 0)) = ((zs.zip ss).filter fun p => decide (p.1 ≠ 0)) ++ (if z = 0 then [] else [(z, ByteArray.empty)]) := by
    unfold mk
    rw [List.filter_append]
    congr 1
    by_cases h : z = 0 <;> simp [h]
  unfold R items
  rw [hmin, hsplit]
  by_cases h : z = 0
  · subst h
    rw [if_pos rfl, List.append_nil]
    split
    · rename_i hn
      rw [hn, List.foldl_nil] at hz
      rw [List.foldl_cons, List.foldl_nil, hz, hstep0]
    · exact hz
  · rw [if_neg h, if_neg (by simp), List.foldl_append, hz, List.foldl_cons, List.foldl_nil, hstep]

theorem zip_mem {zs : List Int} {ss : List ByteArray} {p : TItem} (h : p ∈ zs.zip ss) : p.1 ∈ zs ∧ p.2 ∈ ss := ⟨(List.of_mem_zip h).1, (List.of_mem_zip h).2⟩
theorem items_good {hi : Int} (h0 : 0 ≤ hi) {ss : List ByteArray} (hs : Names ss) {z : Int} {zs : List Int} (h : Small hi (z, zs)) : ∀ t ∈ items ss z zs, Good hi t := fun t ht => by
  have hm : ∀ t ∈ mk ss z zs, Good hi t := fun t ht => by
    unfold mk at ht
    rcases List.mem_append.1 ht with ht | ht
    · have := zip_mem ht
      exact ⟨h.2 _ this.1, Or.inr (hs.2.2 _ this.2)⟩
    · rw [List.mem_singleton.1 ht]
      exact ⟨h.1, Or.inl rfl⟩
  unfold items at ht
  split at ht
  · rw [List.mem_singleton.1 ht]
    exact ⟨⟨by simp; omega, by simpa using h0⟩, Or.inl rfl⟩
  · exact hm t (List.mem_filter.1 ht).1

/-- Different expressions are written differently. -/
theorem fmt_inj {hi : Int} (h0 : 0 ≤ hi) {ss : List ByteArray} (hs : Names ss) {z u : Int} {zs us : List Int} (h1 : Small hi (z, zs)) (h2 : Small hi (u, us)) (l1 : zs.length = ss.length) (l2 : us.length = ss.length)
    (h : fmt ss z zs = fmt ss u us) : z = u ∧ zs = us := by
  rw [fmt_eq, fmt_eq] at h
  have e1 := scanI_render (items_ne ss z zs) (items_good h0 hs h1)
  have e2 := scanI_render (items_ne ss u us) (items_good h0 hs h2)
  rw [h, e2] at e1
  have r1 := R_items hs z zs l1
  rw [← e1, R_items hs u us l2] at r1
  injection r1 with a b
  exact ⟨a.symm, b.symm⟩

/-- The expression whose representation is s, where the names serve (ok). -/
def parseL (ok : Bool) (ss : List ByteArray) (s : List UInt8) : Option (Int × List Int) :=
  if ok = true ∧ fmt ss (R ss (scanI 999999 s)).1 (R ss (scanI 999999 s)).2 = s then some (R ss (scanI 999999 s)) else none
theorem scan_unique {ss : List ByteArray} (hs : Names ss) {s : List UInt8} {ts us : List TItem} (h1 : Scans s ts) (h2 : Scans s us) (h : fmt ss (R ss ts).1 (R ss ts).2 = s) : us = ts := by
  have hr := R_small (ss := ss) (show (0 : Int) ≤ 999999 by omega) h1.1
  have hg := items_good (show (0 : Int) ≤ 999999 by omega) hs hr.1
  have e : render (items ss (R ss ts).1 (R ss ts).2) = s := by rw [← fmt_eq]; exact h
  rw [h1.2 _ (items_ne _ _ _) hg e]
  exact h2.2 _ (items_ne _ _ _) hg e
theorem parse_eq {ok : Bool} {ss : List ByteArray} (hs : ok = true → Names ss) {s : List UInt8} {ts : List TItem} (h : Scans s ts) :
    parseL ok ss s = if ok = true ∧ fmt ss (R ss ts).1 (R ss ts).2 = s then some (R ss ts) else none := by
  unfold parseL
  by_cases h1 : ok = true ∧ fmt ss (R ss ts).1 (R ss ts).2 = s
  · have e := scan_unique (hs h1.1) h (scansI s) h1.2
    rw [e]
  · rw [if_neg h1]
    by_cases h2 : ok = true ∧ fmt ss (R ss (scanI 999999 s)).1 (R ss (scanI 999999 s)).2 = s
    · have e := scan_unique (hs h2.1) (scansI s) h h2.2
      rw [e] at h1
      exact absurd h2 h1
    · rw [if_neg h2]
theorem parse_some {ok : Bool} {ss : List ByteArray} {s : List UInt8} {l : Int × List Int} (h : parseL ok ss s = some l) : ok = true ∧ fmt ss l.1 l.2 = s ∧ Small 999999 l ∧ l.2.length = min ss.length 8 := by
  unfold parseL at h
  split at h
  · rename_i hc
    injection h with h
    subst h
    have := R_small (ss := ss) (show (0 : Int) ≤ 999999 by omega) (scansI s).1
    exact ⟨hc.1, hc.2, this⟩
  · cases h
end TextM
end Go.Proofs.Ytbdpohcababccaa
