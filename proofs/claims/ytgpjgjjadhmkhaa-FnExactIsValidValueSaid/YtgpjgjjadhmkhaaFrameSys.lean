import Derived.Test.YtgpjgjjadhmkhaaFrameArg
import Derived.Test.YtgpjgjjadhmkhaaRepSys
import Derived.Deep.Slices
import Derived.ChangeSame
/-
  Arguments of a law: systems, opened.
-/
namespace Go.Proofs.Ytgpjgjjadhmkhaa
open Go.ChangeShapes Go.WideShapes Go.ChangeAt Go.RowKit Go.Joins Go.Deep
namespace Frame
open RowK Mem
variable {H : Type} {enc : TypeId × Value → H} {P : Program}

theorem pick_list {β : Type} (Q : Nat → β → Prop) : ∀ n, (∀ i, i < n → ∃ e, Q i e) → ∃ es : List β, es.length = n ∧ ∀ i (h : i < es.length), Q i es[i]
  | 0, _ => ⟨[], rfl, fun i h => absurd h (Nat.not_lt_zero _)⟩
  | n + 1, h => by
    obtain ⟨es, hl, he⟩ := pick_list Q n (fun i hi => h i (by omega))
    obtain ⟨e, hq⟩ := h n (Nat.lt_succ_self _)
    refine ⟨es ++ [e], by simp [hl], fun i hi => ?_⟩
    by_cases hin : i < es.length
    · rw [List.getElem_append_left hin]; exact he i hin
    · have : i = n := by simp at hi; omega
      subst this
      rw [List.getElem_append_right (by omega)]
      simpa [hl] using hq

/-- What the kit calls a Lin: its two fields. -/
structure IsLin (P : Program) (e ti tl : TypeId) : Prop where
  fields : ∃ f0 f1 : Field, P.underlying e = some (.struct #[f0, f1]) ∧ f0.type = ti ∧ f1.type = tl ∧ f0.offset = 0 ∧ f1.offset = 1
  hti : P.underlying ti = some (.int .i64)
  htl : P.underlying tl = some (.slice ti)
  hci : P.cellsOf ti = 1
  hcl : P.cellsOf tl = 1
  hce : P.cellsOf e = 2

def WfLin (p : Int × List Int) : Prop := (Lit.int .i64 p.1).wf = true ∧ p.2.length ≤ 9223372036854775807 ∧ ∀ z ∈ p.2, (Lit.int .i64 z).wf = true
theorem trod_lin {W : World} {e ti tl : TypeId} (T : IsLin P e ti tl) {n : Nat} {cs : List Value} {y : DataW H × List MemPlace} (h : DataW.trod enc P W 0 (fun _ => true) true n e cs = some y) (hlt : ∀ x ∈ y.2, x.block < W.heap.size) :
    ∃ fp p, lin.rep false W fp cs p ∧ WfLin p := by
  obtain ⟨f0, f1, hs, rfl, rfl, o0, o1⟩ := T.fields
  obtain ⟨y0, y1, m, rfl, hl, g0, g1⟩ := trod_struct2 hs h
  rw [T.hce] at hl
  obtain ⟨a, b, rfl⟩ : ∃ a b, cs = [a, b] := by
    match cs, hl with
    | [a, b], _ => exact ⟨a, b, rfl⟩
  rw [o0, T.hci] at g0
  rw [o1, T.hcl] at g1
  obtain ⟨z, e, _, hw⟩ := DataW.trod_int T.hti g0
  obtain rfl : a = .int .i64 z := by simpa using e
  obtain ⟨B, cap, zs, rfl, k1, k2, k3, k4⟩ := trod_ints T.hci T.htl T.hti g1 (fun x hx => hlt x (List.mem_append_right _ hx))
  obtain ⟨fp, h1, _, _⟩ := lin_close (q := false) (z := z) k1 (fun h => by cases h) k4
  exact ⟨fp, (z, zs), h1, hw, k2, k3⟩

theorem trod_lins {W : World} {t e ti tl : TypeId} (T : IsLin P e ti tl) (ht : P.underlying t = some (.slice e)) {n : Nat} {v : Value} {y : DataW H × List MemPlace} (h : DataW.trod enc P W 0 (fun _ => true) true n t [v] = some y) (hlt : ∀ x ∈ y.2, x.block < W.heap.size) :
    ∃ A c fp xs, v = .slice A xs.length c ∧ lins.rep false W fp [.slice A xs.length c] xs ∧ xs.length ≤ 9223372036854775807 ∧ ∀ x ∈ xs, WfLin x := by
  rcases open_slice ht h with ⟨hcs, _⟩ | ⟨a, len, cap, m, k, D, Pl, hcs, _, hl, hm, hmm, hx, hi⟩
  · injection hcs with hcs _
    subst hcs
    exact ⟨none, 0, [], [], rfl, ⟨_, _, rfl, Nat.le_refl _, Or.inl ⟨rfl, rfl⟩⟩, by simp, fun x hx => by cases hx⟩
  · injection hcs with hcs _
    subst hcs
    simp only [if_true] at hmm
    obtain rfl : cap = m := hmm.symm
    rw [T.hce] at hi hx
    have hx2 : y.2 = MemPlace.row a (cap * 2) ++ (List.range cap).flatMap Pl := by rw [hx]
    by_cases h0 : len = 0
    · subst h0
      exact ⟨some a, cap, [], [], rfl, ⟨_, _, rfl, Nat.zero_le _, Or.inl ⟨rfl, rfl⟩⟩, by simp, fun x hx => by cases hx⟩
    · obtain ⟨es, hes, he⟩ := pick_list (fun i (e : El (Int × List Int)) => (∀ j, j < 2 → W.cell? ((a.add (i * 2)).add j) = e.2.1[j]?) ∧ lin.rep false W e.1 e.2.1 e.2.2 ∧ WfLin e.2.2) len (fun i hil => by
        obtain ⟨cs', hc, ht'⟩ := hi i (by omega)
        obtain ⟨_, _, hat⟩ := World.cells?_some hc
        obtain ⟨fp, p, h1, h2⟩ := trod_lin T ht' (fun x hx' => hlt x (by rw [hx2]; exact List.mem_append_right _ (List.mem_flatMap.2 ⟨i, List.mem_range.2 (by omega), hx'⟩)))
        exact ⟨(fp, cs', p), hat, h1, h2⟩)
      have hlen : ∀ e ∈ es, e.2.1.length = 2 := fun e h => by
        obtain ⟨i, hi', rfl⟩ := List.getElem_of_mem h
        exact lin.len (he i hi').2.1
      obtain ⟨b, off, spot⟩ := a
      have hspot : spot = none := by
        have h1 := (he 0 (by omega)).1 0 (by omega)
        have h2 := hlen es[0] (List.getElem_mem _)
        rw [List.getElem?_eq_getElem (by omega)] at h1
        have := World.cell?_spot h1
        cases spot with
        | none => rfl
        | some s => simp [Addr.add] at this
      subst hspot
      have hbl : b < W.heap.size := hlt (.cell b off) (by rw [hx2]; exact List.mem_append_left _ (MemPlace.mem_row.2 ⟨0, by omega, by simp⟩))
      have hvl : (vals es).length = len := by rw [vals_len, hes]
      have hne : es ≠ [] := fun e => by rw [e] at hes; simp at hes; omega
      refine ⟨some ⟨b, off, none⟩, cap, b :: fps es, vals es, by rw [hvl], ⟨_, cap, rfl, by omega, Or.inr ⟨b, off, es, rfl, rfl, hne, rfl, hbl, fun e h => ?_, fun _ => ⟨b, off, rfl, ⟨Nat.le_refl _, Nat.lt_succ_self _, hbl⟩, fun j v hj => ?_⟩, fun h => by cases h⟩⟩, by rw [hvl]; unfold maxLen at hm; omega, fun x hx' => ?_⟩
      · obtain ⟨i, hi', rfl⟩ := List.getElem_of_mem h
        exact (he i hi').2.1
      · have hjl : j < es.length * 2 := by
          have := (List.getElem?_eq_some_iff.1 hj).1
          rwa [cells_len hlen] at this
        have hk : j / 2 < es.length := by omega
        have hat := cells_at hlen hk (i := j % 2) (by omega)
        have hc := (he (j / 2) hk).1 (j % 2) (by omega)
        rw [show j / 2 * 2 + j % 2 = j by omega, hj] at hat
        rw [← hat, add_plain, add_plain] at hc
        rw [← hc]
        congr 2
        omega
      · obtain ⟨e, h, rfl⟩ := List.mem_map.1 hx'
        obtain ⟨i, hi', rfl⟩ := List.getElem_of_mem h
        exact (he i hi').2.2

theorem open_sys {W : World} {t ts e ti tl : TypeId} {v : Value} {d : DataW H} {ps : List MemPlace} {r : Reach} {b0 : Nat} {f0 f1 : Field} (T : IsLin P e ti tl) (hs : P.underlying t = some (.struct #[f0, f1])) (hone : oneCellFields P #[f0, f1] = true) (hC : P.cellsOf t = 2)
    (h0 : f0.type = ti) (h1 : f1.type = ts) (hts : P.underlying ts = some (.slice e)) (hv : Value.okWide P W r b0 t v)
    (h : DataW.Trod enc P W 0 (fun _ => true) true t v d ps) (hlt : ∀ x ∈ ps, x.block < W.heap.size) :
    ∃ (n : Int) (A : Option Addr) (c : Nat) (fp : List Nat) (xs : List (Int × List Int)), v = .agg #[.int .i64 n, .slice A xs.length c] ∧ (Lit.int .i64 n).wf = true ∧ lins.rep false W fp [.slice A xs.length c] xs ∧ xs.length ≤ 9223372036854775807 ∧ ∀ x ∈ xs, WfLin x := by
  obtain ⟨v0, v1, y0, y1, n, rfl, _, rfl, g0, g1⟩ := open_agg2 hs hone hC hv h
  rw [h0] at g0
  rw [h1] at g1
  obtain ⟨z, e, _, hw⟩ := DataW.trod_int T.hti g0
  injection e with e _
  subst e
  obtain ⟨A, c, fp, xs, rfl, k1, k2, k3⟩ := trod_lins T hts g1 (fun x hx => hlt x (List.mem_append_right _ hx))
  exact ⟨z, A, c, fp, xs, rfl, hw, k1, k2, k3⟩
end Frame
end Go.Proofs.Ytgpjgjjadhmkhaa
