import Derived.Test.YtaaceggedjcbpaaFrame
import Derived.Test.YtaaceggedjcbpaaRepGen
import Derived.Lib.SmallJoins
import Derived.ChangeSlices
/-
  Arguments of a law: slices of integers and linear expressions, opened.
-/
namespace Go.Proofs.Ytaaceggedjcbpaa
open Go.ChangeShapes Go.WideShapes Go.ChangeAt Go.RowKit Go.Joins Go.Deep
namespace Frame
open RowK
variable {H : Type} {enc : TypeId × Value → H} {P : Program}

/-- A slice of integers: what it holds. -/
theorem trod_ints {W : World} {t e : TypeId} {n : Nat} {v : Value} {y : DataW H × List MemPlace} (hc : P.cellsOf e = 1) (ht : P.underlying t = some (.slice e)) (he : P.underlying e = some (.int .i64))
    (h : DataW.trod enc P W 0 (fun _ => true) true n t [v] = some y) (hlt : ∀ x ∈ y.2, x.block < W.heap.size) :
    ∃ (a : Option Addr) (cap : Nat) (zs : List Int), v = .slice a zs.length cap ∧ Row 0 W.heap.size W a (IntK.iv zs) ∧ zs.length ≤ 9223372036854775807 ∧ (∀ z ∈ zs, (Lit.int .i64 z).wf = true) ∧ zs.length ≤ cap := by
  rcases open_ints ht he hc h with ⟨hcs, hx⟩ | ⟨a', len', cap', zs, hcs, _, hl, hm, hz, hx, hcell, hsz⟩
  · injection hcs with hcs _
    subst hcs
    exact ⟨none, 0, [], rfl, row_nil _ _ _ _, by simp, (fun s hs => by cases hs), Nat.le_refl _⟩
  · injection hcs with hcs _
    subst hcs
    simp only [if_true] at hz
    have hx2 : y.2 = MemPlace.row a' zs.length := by rw [hx]
    have hlen : (zs.take len').length = len' := by rw [List.length_take]; omega
    refine ⟨some a', cap', zs.take len', by rw [hlen], fun hn => ?_, by rw [hlen]; unfold maxLen at hm; omega, fun s hs => hsz s (List.mem_of_mem_take hs), by rw [hlen]; exact hl⟩
    have hpos : 0 < zs.length := by
      rcases Nat.eq_zero_or_pos zs.length with h0 | h0
      · exact absurd (by rw [List.eq_nil_of_length_eq_zero h0]; simp [IntK.iv]) hn
      · exact h0
    obtain ⟨b, off, spot⟩ := a'
    have hspot : spot = none := by simpa [Addr.add] using World.cell?_spot (hcell 0 hpos)
    subst hspot
    refine ⟨b, off, rfl, ⟨Nat.zero_le _, hlt (.cell b off) (by rw [hx2]; exact MemPlace.mem_row.2 ⟨0, by omega, by simp⟩), Nat.le_refl _⟩, fun j s hj => ?_⟩
    have hjl : j < (zs.take len').length := by
      have := (List.getElem?_eq_some_iff.1 hj).1
      rwa [IntK.iv_len] at this
    have hjl' : j < zs.length := by rw [List.length_take] at hjl; omega
    have h2 := hcell j hjl'
    rw [add_plain] at h2
    rw [h2, List.getD]
    rw [List.getElem?_eq_getElem (by rw [IntK.iv_len]; exact hjl), IntK.iv_get hjl] at hj
    rw [← Option.some.inj hj, List.getElem_take, List.getElem?_eq_getElem hjl']
    rfl

theorem open_ints_row {W : World} {t e : TypeId} {v : Value} {d : DataW H} {ps : List MemPlace} {r : Reach} {b0 : Nat} (hc : P.cellsOf e = 1) (ht : P.underlying t = some (.slice e)) (he : P.underlying e = some (.int .i64)) (hv : Value.okWide P W r b0 t v)
    (h : DataW.Trod enc P W 0 (fun _ => true) true t v d ps) (hlt : ∀ x ∈ ps, x.block < W.heap.size) :
    ∃ (a : Option Addr) (cap : Nat) (zs : List Int), v = .slice a zs.length cap ∧ Row 0 W.heap.size W a (IntK.iv zs) ∧ zs.length ≤ 9223372036854775807 ∧ (∀ z ∈ zs, (Lit.int .i64 z).wf = true) ∧ zs.length ≤ cap := by
  obtain ⟨a, len, cap, rfl⟩ := okWide_slice ht hv
  obtain ⟨fuel, hf⟩ := h
  exact trod_ints hc ht he (by simpa [Value.cells] using hf) hlt

theorem open_lin {W : World} {t ti tl : TypeId} {v : Value} {d : DataW H} {ps : List MemPlace} {r : Reach} {b0 : Nat} {f0 f1 : Field} (hs : P.underlying t = some (.struct #[f0, f1])) (hone : oneCellFields P #[f0, f1] = true) (hC : P.cellsOf t = 2)
    (h0 : f0.type = ti) (h1 : f1.type = tl) (hti : P.underlying ti = some (.int .i64)) (htl : P.underlying tl = some (.slice ti)) (hc : P.cellsOf ti = 1) (hv : Value.okWide P W r b0 t v)
    (h : DataW.Trod enc P W 0 (fun _ => true) true t v d ps) (hlt : ∀ x ∈ ps, x.block < W.heap.size) :
    ∃ (z : Int) (a : Option Addr) (cap : Nat) (zs : List Int), v = .agg #[.int .i64 z, .slice a zs.length cap] ∧ (Lit.int .i64 z).wf = true ∧ Row 0 W.heap.size W a (IntK.iv zs) ∧ zs.length ≤ 9223372036854775807 ∧ (∀ z ∈ zs, (Lit.int .i64 z).wf = true) ∧ zs.length ≤ cap := by
  obtain ⟨v0, v1, y0, y1, n, rfl, _, rfl, g0, g1⟩ := open_agg2 hs hone hC hv h
  rw [h0] at g0
  rw [h1] at g1
  obtain ⟨z, e, _, hw⟩ := DataW.trod_int hti g0
  injection e with e _
  subst e
  obtain ⟨a, cap, zs, rfl, k1, k2, k3, k4⟩ := trod_ints hc htl hti g1 (fun x hx => hlt x (List.mem_append_right _ hx))
  exact ⟨z, a, cap, zs, rfl, hw, k1, k2, k3, k4⟩
end Frame
end Go.Proofs.Ytaaceggedjcbpaa
