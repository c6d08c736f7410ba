import Derived.Test.YtbbllkhmenpnlaaGreatFrame
import Derived.Test.YtbbllkhmenpnlaaGreatRepGen
import Derived.Lib.SmallJoins
import Derived.ChangeSlices
import Derived.Test.YtbbllkhmenpnlaaGreatRepSum
import Derived.Deep.Slices
import Derived.ChangeSame
import Derived.Test.YtbbllkhmenpnlaaGreatRepSys
/-
  Arguments of a law: slices of integers and linear expressions, opened.
-/
namespace Go.Proofs.YtbbllkhmenpnlaaGreat
open Go.ChangeShapes Go.WideShapes Go.ChangeAt Go.RowKit Go.Joins Go.Deep
namespace Frame
open RowK
variable {H : Type} {enc : TypeId × Value → H} {P : Program}

theorem trod_ints {W : World} {t e : TypeId} {n : Nat} {v : Value} {y : DataW H × List MemPlace} (hc : P.cellsOf e = 1) (ht : P.underlying t = some (.slice e)) (he : P.underlying e = some (.int .i64))
  (h : DataW.trod enc P W 0 (fun _ => true) true n t [v] = some y) (hlt : ∀ x ∈ y.2, x.block < W.heap.size) :
  ∃ (a : Option Addr) (cap : Nat) (zs : List Int), v = .slice a zs.length cap ∧ Row 0 W.heap.size W a (IntK.iv zs) ∧ zs.length ≤ 9223372036854775807 ∧ (∀ z ∈ zs, (Lit.int .i64 z).wf = true) ∧ zs.length ≤ cap := by
 rcases open_ints ht he hc h with ⟨hcs, hx⟩ | ⟨a', len', cap', zs, hcs, _, hl, hm, hz, hx, hcell, hsz⟩
 ·injection hcs with hcs _
  subst hcs
  exact ⟨none, 0, [], rfl, row_nil _ _ _ _, by simp, (fun s hs => by cases hs), Nat.le_refl _⟩
 ·injection hcs with hcs _
  subst hcs
  simp only [if_true] at hz
  have hx2 : y.2 = MemPlace.row a' zs.length := by rw [hx]
  have hlen : (zs.take len').length = len' := by rw [List.length_take]; omega
  refine ⟨some a', cap', zs.take len', by rw [hlen], fun hn => ?_, by rw [hlen]; unfold maxLen at hm; omega, fun s hs => hsz s (List.mem_of_mem_take hs), by rw [hlen]; exact hl⟩
  have hpos : 0 < zs.length := by
   rcases Nat.eq_zero_or_pos zs.length with h0 | h0
   ·exact absurd (by rw [List.eq_nil_of_length_eq_zero h0]; simp [IntK.iv]) hn
   ·exact h0
  obtain ⟨b, off, spot⟩ := a'
  have hspot : spot = none := by simpa [Addr.add] using World.cell?_spot (hcell 0 hpos)
  subst hspot
  refine ⟨b, off, rfl, ⟨Nat.zero_le _, hlt (.cell b off) (by rw [hx2]; exact MemPlace.mem_row.2 ⟨0, by omega, by simp⟩), Nat.le_refl _⟩, fun j s hj => ?_⟩
  have hjl : j < (zs.take len').length := by
   have := (List.getElem?_eq_some_iff.1 hj).1
   rwa [IntK.iv_len] at this
  have hjl' : j < zs.length := by rw [List.length_take] at hjl; omega
  have h2 := hcell j hjl'
  rw [add_plain] at h2
  rw [h2, List.getD]
  rw [List.getElem?_eq_getElem (by rw [IntK.iv_len]; exact hjl), IntK.iv_get hjl] at hj
  rw [← Option.some.inj hj, List.getElem_take, List.getElem?_eq_getElem hjl']
  rfl

end Frame
end Go.Proofs.YtbbllkhmenpnlaaGreat

/-
  Arguments of a law: sums and arguments, opened.
-/
namespace Go.Proofs.YtbbllkhmenpnlaaGreat
open Go.ChangeShapes Go.WideShapes Go.ChangeAt Go.RowKit Go.Joins Go.Deep
namespace Frame
open RowK Mem
variable {H : Type} {enc : TypeId × Value → H} {P : Program}

theorem pick_els {β : Type} (Q : Nat → β → Prop) : ∀ n, (∀ i, i < n → ∃ e, Q i e) → ∃ es : List β, es.length = n ∧ ∀ i (h : i < es.length), Q i es[i]
 | 0, _ => ⟨[], rfl, fun i h => absurd h (Nat.not_lt_zero _)⟩
 | n + 1, h => by
  obtain ⟨es, hl, he⟩ := pick_els Q n (fun i hi => h i (by omega))
  obtain ⟨e, hq⟩ := h n (Nat.lt_succ_self _)
  refine ⟨es ++ [e], by simp [hl], fun i hi => ?_⟩
  by_cases hin : i < es.length
  ·rw [List.getElem_append_left hin]; exact he i hin
  ·have : i = n := by simp at hi; omega
   subst this
   rw [List.getElem_append_right (by omega)]
   simpa [hl] using hq
theorem trod_slice {α : Type} {r : Rep α} {Wf : α → Prop} {W : World} {t e : TypeId} (hn : 0 < r.n) (hce : P.cellsOf e = r.n) (ht : P.underlying t = some (.slice e))
  (hel : ∀ {m : Nat} {cs : List Value} {y : DataW H × List MemPlace}, DataW.trod enc P W 0 (fun _ => true) true m e cs = some y → (∀ x ∈ y.2, x.block < W.heap.size) → ∃ fp p, r.rep false W fp cs p ∧ Wf p)
  {n : Nat} {v : Value} {y : DataW H × List MemPlace} (h : DataW.trod enc P W 0 (fun _ => true) true n t [v] = some y) (hlt : ∀ x ∈ y.2, x.block < W.heap.size) :
  ∃ A c fp xs, v = .slice A xs.length c ∧ (Rep.slice r).rep false W fp [.slice A xs.length c] xs ∧ xs.length ≤ 9223372036854775807 ∧ ∀ x ∈ xs, Wf x := by
 rcases open_slice ht h with ⟨hcs, _⟩ | ⟨a, len, cap, m, k, D, Pl, hcs, _, hl, hm, hmm, hx, hi⟩
 ·injection hcs with hcs _
  subst hcs
  exact ⟨none, 0, [], [], rfl, ⟨_, _, rfl, Nat.le_refl _, Or.inl ⟨rfl, rfl⟩⟩, by simp, fun x hx => by cases hx⟩
 ·injection hcs with hcs _
  subst hcs
  simp only [if_true] at hmm
  obtain rfl : cap = m := hmm.symm
  rw [hce] at hi hx
  have hx2 : y.2 = MemPlace.row a (cap * r.n) ++ (List.range cap).flatMap Pl := by rw [hx]
  by_cases h0 : len = 0
  ·subst h0
   exact ⟨some a, cap, [], [], rfl, ⟨_, _, rfl, Nat.zero_le _, Or.inl ⟨rfl, rfl⟩⟩, by simp, fun x hx => by cases hx⟩
  ·obtain ⟨es, hes, he⟩ := pick_els (fun i (e : El α) => (∀ j, j < r.n → W.cell? ((a.add (i * r.n)).add j) = e.2.1[j]?) ∧ r.rep false W e.1 e.2.1 e.2.2 ∧ Wf e.2.2) len (fun i hil => by
    obtain ⟨cs', hc, ht'⟩ := hi i (by omega)
    obtain ⟨_, _, hat⟩ := World.cells?_some hc
    obtain ⟨fp, p, h1, h2⟩ := hel ht' (fun x hx' => hlt x (by rw [hx2]; exact List.mem_append_right _ (List.mem_flatMap.2 ⟨i, List.mem_range.2 (by omega), hx'⟩)))
    exact ⟨(fp, cs', p), hat, h1, h2⟩)
   have hlen : ∀ e ∈ es, e.2.1.length = r.n := fun e h => by
    obtain ⟨i, hi', rfl⟩ := List.getElem_of_mem h
    exact r.len (he i hi').2.1
   obtain ⟨b, off, spot⟩ := a
   have hspot : spot = none := by
    have h1 := (he 0 (by omega)).1 0 hn
    have h2 := hlen es[0] (List.getElem_mem _)
    rw [List.getElem?_eq_getElem (by omega)] at h1
    have := World.cell?_spot h1
    cases spot with
    | none => rfl
    | some s => simp [Addr.add] at this
   subst hspot
   have hcap : 0 < cap * r.n := Nat.mul_pos (by omega) hn
   have hbl : b < W.heap.size := hlt (.cell b off) (by rw [hx2]; exact List.mem_append_left _ (MemPlace.mem_row.2 ⟨0, hcap, by simp⟩))
   have hvl : (vals es).length = len := by rw [vals_len, hes]
   have hne : es ≠ [] := fun e => by rw [e] at hes; simp at hes; omega
   refine ⟨some ⟨b, off, none⟩, cap, b :: fps es, vals es, by rw [hvl], ⟨_, cap, rfl, by omega, Or.inr ⟨b, off, es, rfl, rfl, hne, rfl, hbl, fun e h => ?_, fun _ => ⟨b, off, rfl, ⟨Nat.le_refl _, Nat.lt_succ_self _, hbl⟩, fun j v hj => ?_⟩, fun h => by cases h⟩⟩, by rw [hvl]; unfold maxLen at hm; omega, fun x hx' => ?_⟩
   ·obtain ⟨i, hi', rfl⟩ := List.getElem_of_mem h
    exact (he i hi').2.1
   ·have hjl : j < es.length * r.n := by
     have := (List.getElem?_eq_some_iff.1 hj).1
     rwa [cells_len hlen] at this
    have hk : j / r.n < es.length := (Nat.div_lt_iff_lt_mul hn).2 hjl
    have hi3 : j % r.n < r.n := Nat.mod_lt _ hn
    have hat := cells_at hlen hk hi3
    have hc := (he (j / r.n) hk).1 (j % r.n) hi3
    have hjj : j / r.n * r.n + j % r.n = j := by rw [Nat.mul_comm]; exact Nat.div_add_mod j r.n
    rw [hjj, hj] at hat
    rw [← hat, add_plain, add_plain] at hc
    rw [← hc]
    congr 2
    rw [Nat.add_assoc, hjj]
   ·obtain ⟨e, h, rfl⟩ := List.mem_map.1 hx'
    obtain ⟨i, hi', rfl⟩ := List.getElem_of_mem h
    exact (he i hi').2.2

structure IsSum (P : Program) (e tl te ti ts : TypeId) : Prop where
 fields : ∃ f0 f1 : Field, P.underlying e = some (.struct #[f0, f1]) ∧ f0.type = ti ∧ f1.type = tl ∧ f0.offset = 0 ∧ f1.offset = 1
 fieldsT : ∃ f0 f1 : Field, P.underlying te = some (.struct #[f0, f1]) ∧ f0.type = ti ∧ f1.type = ts ∧ f0.offset = 0 ∧ f1.offset = 1
 hti : P.underlying ti = some (.int .i64)
 hts : P.underlying ts = some .string
 htl : P.underlying tl = some (.slice te)
 hci : P.cellsOf ti = 1
 hcs : P.cellsOf ts = 1
 hcl : P.cellsOf tl = 1
 hct : P.cellsOf te = 2
 hce : P.cellsOf e = 2
theorem trod_term {W : World} {e tl te ti ts : TypeId} (T : IsSum P e tl te ti ts) {n : Nat} {cs : List Value} {y : DataW H × List MemPlace} (h : DataW.trod enc P W 0 (fun _ => true) true n te cs = some y) :
  ∃ fp p, term.rep false W fp cs p ∧ WfTerm p := by
 obtain ⟨f0, f1, hs, rfl, rfl, o0, o1⟩ := T.fieldsT
 obtain ⟨y0, y1, m, rfl, hl, g0, g1⟩ := trod_struct2 hs h
 rw [T.hct] at hl
 obtain ⟨a, b, rfl⟩ : ∃ a b, cs = [a, b] := by
  match cs, hl with
  | [a, b], _ => exact ⟨a, b, rfl⟩
 rw [o0, T.hci] at g0
 rw [o1, T.hcs] at g1
 obtain ⟨z, e, _, hw⟩ := DataW.trod_int T.hti g0
 obtain rfl : a = .int .i64 z := by simpa using e
 obtain ⟨s, e, _, hw2⟩ := DataW.trod_string T.hts g1
 obtain rfl : b = .string s := by simpa using e
 exact ⟨[], (z, s), term_close _ _ _ _, hw, by unfold maxLen at hw2; exact hw2⟩
theorem trod_terms {W : World} {e tl te ti ts : TypeId} (T : IsSum P e tl te ti ts) {n : Nat} {v : Value} {y : DataW H × List MemPlace} (h : DataW.trod enc P W 0 (fun _ => true) true n tl [v] = some y) (hlt : ∀ x ∈ y.2, x.block < W.heap.size) :
  ∃ A c fp xs, v = .slice A xs.length c ∧ terms.rep false W fp [.slice A xs.length c] xs ∧ xs.length ≤ 9223372036854775807 ∧ ∀ x ∈ xs, WfTerm x :=
 trod_slice (r := term) (Nat.succ_pos _) T.hct T.htl (fun h _ => trod_term T h) h hlt
theorem trod_sum {W : World} {e tl te ti ts : TypeId} (T : IsSum P e tl te ti ts) {n : Nat} {cs : List Value} {y : DataW H × List MemPlace} (h : DataW.trod enc P W 0 (fun _ => true) true n e cs = some y) (hlt : ∀ x ∈ y.2, x.block < W.heap.size) :
  ∃ fp p, Mem.sum.rep false W fp cs p ∧ WfSum p := by
 obtain ⟨f0, f1, hs, rfl, rfl, o0, o1⟩ := T.fields
 obtain ⟨y0, y1, m, rfl, hl, g0, g1⟩ := trod_struct2 hs h
 rw [T.hce] at hl
 obtain ⟨a, b, rfl⟩ : ∃ a b, cs = [a, b] := by
  match cs, hl with
  | [a, b], _ => exact ⟨a, b, rfl⟩
 rw [o0, T.hci] at g0
 rw [o1, T.hcl] at g1
 obtain ⟨z, e, _, hw⟩ := DataW.trod_int T.hti g0
 obtain rfl : a = .int .i64 z := by simpa using e
 obtain ⟨A, c, fp, xs, rfl, k1, k2, k3⟩ := trod_terms T g1 (fun x hx => hlt x (List.mem_append_right _ hx))
 exact ⟨fp, (z, xs), sum_close k1, hw, k2, k3⟩
end Frame
end Go.Proofs.YtbbllkhmenpnlaaGreat

/-
  Arguments of a law: systems, opened.
-/
namespace Go.Proofs.YtbbllkhmenpnlaaGreat
open Go.ChangeShapes Go.WideShapes Go.ChangeAt Go.RowKit Go.Joins Go.Deep
namespace Frame
open RowK Mem
variable {H : Type} {enc : TypeId × Value → H} {P : Program}

structure IsLin (P : Program) (e ti tl : TypeId) : Prop where
 fields : ∃ f0 f1 : Field, P.underlying e = some (.struct #[f0, f1]) ∧ f0.type = ti ∧ f1.type = tl ∧ f0.offset = 0 ∧ f1.offset = 1
 hti : P.underlying ti = some (.int .i64)
 htl : P.underlying tl = some (.slice ti)
 hci : P.cellsOf ti = 1
 hcl : P.cellsOf tl = 1
 hce : P.cellsOf e = 2

def WfLin (p : Int × List Int) : Prop := (Lit.int .i64 p.1).wf = true ∧ p.2.length ≤ 9223372036854775807 ∧ ∀ z ∈ p.2, (Lit.int .i64 z).wf = true
theorem trod_lin {W : World} {e ti tl : TypeId} (T : IsLin P e ti tl) {n : Nat} {cs : List Value} {y : DataW H × List MemPlace} (h : DataW.trod enc P W 0 (fun _ => true) true n e cs = some y) (hlt : ∀ x ∈ y.2, x.block < W.heap.size) :
  ∃ fp p, lin.rep false W fp cs p ∧ WfLin p := by
 obtain ⟨f0, f1, hs, rfl, rfl, o0, o1⟩ := T.fields
 obtain ⟨y0, y1, m, rfl, hl, g0, g1⟩ := trod_struct2 hs h
 rw [T.hce] at hl
 obtain ⟨a, b, rfl⟩ : ∃ a b, cs = [a, b] := by
  match cs, hl with
  | [a, b], _ => exact ⟨a, b, rfl⟩
 rw [o0, T.hci] at g0
 rw [o1, T.hcl] at g1
 obtain ⟨z, e, _, hw⟩ := DataW.trod_int T.hti g0
 obtain rfl : a = .int .i64 z := by simpa using e
 obtain ⟨B, cap, zs, rfl, k1, k2, k3, k4⟩ := trod_ints T.hci T.htl T.hti g1 (fun x hx => hlt x (List.mem_append_right _ hx))
 obtain ⟨fp, h1, _, _⟩ := lin_close (q := false) (z := z) k1 (fun h => by cases h) k4
 exact ⟨fp, (z, zs), h1, hw, k2, k3⟩

end Frame
end Go.Proofs.YtbbllkhmenpnlaaGreat
