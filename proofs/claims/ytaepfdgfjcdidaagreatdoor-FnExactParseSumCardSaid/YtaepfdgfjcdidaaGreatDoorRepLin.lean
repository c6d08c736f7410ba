import Derived.Test.YtaepfdgfjcdidaaGreatDoorRep
import Derived.Test.YtaepfdgfjcdidaaGreatDoorLinK
import Derived.Lib.Hide
/-
  Linear expressions as data in memory, and slices of them: the laws' helpers.
-/
namespace Go.Proofs.YtaepfdgfjcdidaaGreatDoor
open Go.RowKit
namespace Mem
open RowK

def ints : Rep (List Int) := Rep.slice Rep.int
def lin : Rep (Int × List Int) := Rep.prod Rep.int ints
def lins : Rep (List (Int × List Int)) := Rep.slice lin

def esOf (zs : List Int) : List (El Int) := zs.map fun z => ([], [Value.int .i64 z], z)
theorem cells_esOf : ∀ zs : List Int, cells (esOf zs) = IntK.iv zs
  | [] => rfl
  | z :: zs => by have := cells_esOf zs; simp [cells, esOf, IntK.iv] at this ⊢; simpa [Function.comp_def] using this
theorem fps_esOf : ∀ zs : List Int, fps (esOf zs) = []
  | [] => rfl
  | z :: zs => by have := fps_esOf zs; simp [fps, esOf] at this ⊢
theorem vals_esOf (zs : List Int) : vals (esOf zs) = zs := by simp [vals, esOf, Function.comp_def]
theorem int_cells {q : Bool} {w : World} : ∀ {es : List (El Int)}, (∀ e ∈ es, Rep.int.rep q w e.1 e.2.1 e.2.2) → cells es = IntK.iv (vals es) ∧ fps es = []
  | [], _ => ⟨rfl, rfl⟩
  | e :: es, h => by
    obtain ⟨h1, h2⟩ := int_cells (es := es) (fun e he => h e (List.mem_cons_of_mem _ he))
    obtain ⟨g1, g2⟩ := h e List.mem_cons_self
    unfold cells fps vals IntK.iv at *
    rw [List.flatMap_cons, List.flatMap_cons, h1, h2, g1, g2]
    simp

/-- A slice of integers, opened. -/
theorem ints_open {q : Bool} {w : World} {fp : List Nat} {cs : List Value} {zs : List Int} (h : ints.rep q w fp cs zs) :
    ∃ A c lo hi, cs = [.slice A zs.length c] ∧ zs.length ≤ c ∧ Row lo hi w A (IntK.iv zs) ∧ (q = true → Free w A zs.length) ∧ ∀ i, (lo ≤ i ∧ i < hi) ↔ i ∈ fp := by
  obtain ⟨A, c, rfl, hc, ⟨rfl, rfl⟩ | ⟨b, o, es, rfl, rfl, hne, rfl, hl, he, hr, hf⟩⟩ := h
  · exact ⟨A, c, 0, 0, rfl, hc, row_nil _ _ _ _, fun _ => free_zero _ _, fun i => by simp⟩
  · obtain ⟨h1, h2⟩ := int_cells he
    rw [h1] at hr hf
    refine ⟨_, c, b, b + 1, rfl, hc, hr, fun hq => by have := hf hq; rwa [IntK.iv_len] at this, fun i => ?_⟩
    rw [h2]
    simp
    omega
theorem ints_close {q : Bool} {lo hi c : Nat} {w : World} {A : Option Addr} {zs : List Int} (hr : Row lo hi w A (IntK.iv zs)) (hf : q = true → Free w A zs.length) (hc : zs.length ≤ c) :
    ∃ fp, ints.rep q w fp [.slice A zs.length c] zs ∧ fp.Nodup ∧ ∀ b ∈ fp, lo ≤ b ∧ b < hi := by
  by_cases h0 : zs = []
  · subst h0
    exact ⟨[], ⟨A, c, rfl, hc, Or.inl ⟨rfl, rfl⟩⟩, List.nodup_nil, fun b h => by cases h⟩
  · obtain ⟨b, o, rfl, ⟨h1, h2, h3⟩, h4⟩ := hr (fun e => h0 (by simpa [IntK.iv] using e))
    refine ⟨[b], ⟨_, c, rfl, hc, Or.inr ⟨b, o, esOf zs, rfl, (vals_esOf zs).symm, fun e => h0 (by simpa [esOf] using e), by rw [fps_esOf], by omega, fun e he => ?_, ?_, fun hq => ?_⟩⟩, by simp, fun i hi => by simp at hi; omega⟩
    · obtain ⟨z, _, rfl⟩ := List.mem_map.1 he
      exact ⟨rfl, rfl⟩
    · rw [cells_esOf]
      exact fun _ => ⟨b, o, rfl, ⟨Nat.le_refl _, Nat.lt_succ_self _, by omega⟩, h4⟩
    · rw [cells_esOf, IntK.iv_len]
      exact hf hq
/-- A linear expression, opened. -/
theorem lin_open {q : Bool} {w : World} {fp : List Nat} {cs : List Value} {p : Int × List Int} (h : lin.rep q w fp cs p) :
    ∃ A c lo hi, cs = [.int .i64 p.1, .slice A p.2.length c] ∧ p.2.length ≤ c ∧ Row lo hi w A (IntK.iv p.2) ∧ (q = true → Free w A p.2.length) ∧ ∀ i, (lo ≤ i ∧ i < hi) ↔ i ∈ fp := by
  obtain ⟨f1, f2, c1, c2, rfl, rfl, ⟨rfl, rfl⟩, h2⟩ := h
  obtain ⟨A, c, lo, hi, rfl, hc, hr, hf, hi'⟩ := ints_open h2
  exact ⟨A, c, lo, hi, rfl, hc, hr, hf, by simpa using hi'⟩
theorem lin_close {q : Bool} {lo hi c : Nat} {w : World} {A : Option Addr} {z : Int} {zs : List Int} (hr : Row lo hi w A (IntK.iv zs)) (hf : q = true → Free w A zs.length) (hc : zs.length ≤ c) :
    ∃ fp, lin.rep q w fp [.int .i64 z, .slice A zs.length c] (z, zs) ∧ fp.Nodup ∧ ∀ b ∈ fp, lo ≤ b ∧ b < hi := by
  obtain ⟨fp, h1, h2, h3⟩ := ints_close (q := q) hr hf hc
  exact ⟨fp, ⟨[], fp, _, _, rfl, rfl, ⟨rfl, rfl⟩, h1⟩, h2, h3⟩
/-- How many numbers a list of expressions holds. -/
def linsSize (xs : List (Int × List Int)) : Nat := xs.length + (xs.map fun x => x.2.length).sum
theorem linsSize_cons (x : Int × List Int) (xs : List (Int × List Int)) : linsSize (x :: xs) = linsSize xs + 1 + x.2.length := by simp [linsSize]; omega
theorem linsSize_mem : ∀ {xs : List (Int × List Int)} {x : Int × List Int}, x ∈ xs → x.2.length + xs.length ≤ linsSize xs
  | y :: ys, x, h => by
    rw [linsSize_cons, List.length_cons]
    rcases List.mem_cons.1 h with rfl | h
    · unfold linsSize; omega
    · have := linsSize_mem h
      omega

theorem linInfo : (Tryz.prog.info? 68).map (fun i => (i.zero, i.size, i.bytes)) = some (some (.agg #[.int .i64 0, .slice none 0 0]), 2, 32) := by kernel_rfl
def zeroLin : El (Int × List Int) := ([], [.int .i64 0, .slice none 0 0], (0, []))
def zcells (m : Nat) : List Value := cells (List.replicate m zeroLin)
theorem zcells_succ (m : Nat) : zcells (m + 1) = .int .i64 0 :: .slice none 0 0 :: zcells m := by simp [zcells, cells, List.replicate_succ, zeroLin]
theorem made_z (n : Nat) : (madeCells #[.int .i64 0, .slice none 0 0] (n * 2)).toList = zcells n := by
  refine List.ext_getElem? fun j => ?_
  induction n generalizing j with
  | zero => simp [madeCells, zcells, cells]
  | succ n ih =>
    rw [zcells_succ]
    have key : ∀ i, (madeCells #[.int .i64 0, .slice none 0 0] ((n + 1) * 2)).toList[i + 2]? = (madeCells #[.int .i64 0, .slice none 0 0] (n * 2)).toList[i]? := fun i => by
      simp only [madeCells, Array.toList_map, List.getElem?_map, Array.toList_range]
      by_cases h : i < n * 2
      · rw [List.getElem?_range (by omega), List.getElem?_range h]
        simp [Nat.add_mod_right]
      · rw [List.getElem?_eq_none (by simp; omega), List.getElem?_eq_none (by simp; omega)]
    rcases j with _ | _ | j
    · simp [madeCells]
    · simp only [madeCells, Array.toList_map, List.getElem?_map, Array.toList_range]
      rw [List.getElem?_range (by omega)]
      rfl
    · rw [key, ih]; rfl
theorem made_row (w : World) (n : Nat) : Row w.heap.size (w.heap.size + 1) (w.alloc (.cells (madeCells #[.int .i64 0, .slice none 0 0] (n * 2)) 68)) (some ⟨w.heap.size, 0, none⟩) (zcells n) ∧ Free (w.alloc (.cells (madeCells #[.int .i64 0, .slice none 0 0] (n * 2)) 68)) (some ⟨w.heap.size, 0, none⟩) (n * 2) := by
  have h := (Lvar.new w (madeCells #[.int .i64 0, .slice none 0 0] (n * 2)) 68).row
  rw [made_z, size_madeCells] at h
  exact h
theorem lin_len {q : Bool} {w : World} {es : List (El (Int × List Int))} (h : ∀ e ∈ es, lin.rep q w e.1 e.2.1 e.2.2) : (cells es).length = es.length * 2 := cells_len (n := 2) fun e he => lin.len (h e he)

/-- So far copied: the first ones lie in new memory, the others are still zero. -/
def SoLins (w : World) (n : Nat) (xs : List (Int × List Int)) (wr : World) : Prop :=
  ∃ es : List (El (Int × List Int)), vals es = xs ∧ Row w.heap.size (w.heap.size + 1) wr (some ⟨w.heap.size, 0, none⟩) (cells es ++ zcells (n - xs.length)) ∧ Free wr (some ⟨w.heap.size, 0, none⟩) (n * 2) ∧ (∀ e ∈ es, lin.rep true wr e.1 e.2.1 e.2.2) ∧ (fps es).Nodup ∧ (∀ b ∈ fps es, w.heap.size < b) ∧ Below w.heap.size w wr
theorem soLins_zero (w : World) (n : Nat) : SoLins w n [] (w.alloc (.cells (madeCells #[.int .i64 0, .slice none 0 0] (n * 2)) 68)) :=
  ⟨[], rfl, by simpa [cells] using (made_row w n).1, (made_row w n).2, (fun e h => by cases h), List.nodup_nil, (fun e h => by cases h), (Below.refl _ _).alloc (Nat.le_refl _) _⟩
theorem soLins_place {w wr : World} {n : Nat} {xs : List (Int × List Int)} (h : SoLins w n xs wr) (hk : xs.length < n) :
    wr.cell? ⟨w.heap.size, xs.length * 2, none⟩ = some (.int .i64 0) ∧ wr.cell? ⟨w.heap.size, xs.length * 2 + 1, none⟩ = some (.slice none 0 0) ∧ wr.frozen? ⟨w.heap.size, xs.length * 2, none⟩ = false ∧ wr.frozen? ⟨w.heap.size, xs.length * 2 + 1, none⟩ = false ∧ w.heap.size < wr.heap.size := by
  obtain ⟨es, rfl, hr, hf, he, _⟩ := h
  have hl := lin_len he
  rw [vals_len] at *
  obtain ⟨m, hm⟩ : ∃ m, n - es.length = m + 1 := ⟨n - es.length - 1, by omega⟩
  rw [hm, zcells_succ] at hr
  obtain ⟨b, o, e, ⟨h1, h2, h3⟩, hc⟩ := hr (by simp)
  injection e with e; injection e with e1 e2; subst e1; subst e2
  have c0 := hc (es.length * 2) _ (by rw [List.getElem?_append_right (by omega), hl, Nat.sub_self]; rfl)
  have c1 := hc (es.length * 2 + 1) _ (by rw [List.getElem?_append_right (by omega), hl, show es.length * 2 + 1 - es.length * 2 = 1 by omega]; rfl)
  have f0 := hf (by omega) _ _ rfl (es.length * 2) (by omega)
  have f1 := hf (by omega) _ _ rfl (es.length * 2 + 1) (by omega)
  simp only [Nat.zero_add] at c0 c1 f0 f1
  exact ⟨c0, c1, f0, f1, by omega⟩
theorem soLins_snoc {w wr w1 : World} {n : Nat} {xs : List (Int × List Int)} {z : Int} {zs : List Int} {B : Option Addr} {c : Nat} (h : SoLins w n xs wr) (hk : xs.length < n) (hb : Below wr.heap.size wr w1) (hN : New lin wr (z, zs) w1 [.int .i64 z, .slice B zs.length c]) :
    SoLins w n (xs ++ [(z, zs)]) ((w1.setCell ⟨w.heap.size, xs.length * 2, none⟩ (.int .i64 z)).setCell ⟨w.heap.size, xs.length * 2 + 1, none⟩ (.slice B zs.length c)) := by
  have hwz := (soLins_place h hk).2.2.2.2
  obtain ⟨es, rfl, hr, hf, he, hn, hg, hB⟩ := h
  obtain ⟨fp, h1, h2, h3⟩ := hN
  have hl := lin_len he
  rw [vals_len] at *
  obtain ⟨m, hm⟩ : ∃ m, n - es.length = m + 1 := ⟨n - es.length - 1, by omega⟩
  have mm : ModF [w.heap.size] w1 ((w1.setCell ⟨w.heap.size, es.length * 2, none⟩ (.int .i64 z)).setCell ⟨w.heap.size, es.length * 2 + 1, none⟩ (.slice B zs.length c)) := (ModF.set _ (p := ⟨w.heap.size, es.length * 2, none⟩) (by simp) _).trans (ModF.set _ (p := ⟨w.heap.size, es.length * 2 + 1, none⟩) (by simp) _)
  rw [hm, zcells_succ] at hr
  have r1 := hr.below hb
  have r2 := r1.store (k := es.length * 2) (by simp; omega) (.int .i64 z)
  have r3 := r2.store (k := es.length * 2 + 1) (by simp; omega) (.slice B zs.length c)
  simp only [Nat.zero_add] at r2 r3
  refine ⟨es ++ [(fp, [.int .i64 z, .slice B zs.length c], (z, zs))], by rw [vals_append]; rfl, ?_, ?_, ?_, ?_, ?_, ?_⟩
  · rw [List.length_append, vals_len, List.length_singleton, show n - (es.length + 1) = m by omega, cells_append]
    rw [List.set_append_right _ _ (by omega), hl, Nat.sub_self, List.set_cons_zero, List.set_append_right _ _ (by omega), hl, show es.length * 2 + 1 - es.length * 2 = 1 by omega, List.set_cons_succ, List.set_cons_zero] at r3
    simpa [cells] using r3
  · exact ((hf.below (vs := cells es ++ .int .i64 0 :: .slice none 0 0 :: zcells m) hr (by
      have : (zcells m).length = m * 2 := by
        unfold zcells
        rw [cells_len (n := 2) (fun e he => by rw [(List.mem_replicate.1 he).2]; rfl), List.length_replicate]
      simp; omega) hb).set _ _).set _ _
  · intro e h
    rcases List.mem_append.1 h with h | h
    · exact Rep.keepF (Rep.below (he e h) hb) mm (fun b hb' => by have := hg b (mem_fps h hb'); simp; omega)
    · rw [List.mem_singleton.1 h]
      exact Rep.keepF h1 mm (fun b hb' => by have := h3 b hb'; simp; omega)
  · rw [fps_append]
    refine List.nodup_append.2 ⟨hn, by simpa [fps] using h2, fun a ha b hb' e => ?_⟩
    subst e
    obtain ⟨e, h5, h6⟩ := List.mem_flatMap.1 ha
    have := lin.lt (he e h5) a h6
    have := h3 a (by simpa [fps] using hb')
    omega
  · intro b hb'
    rw [fps_append] at hb'
    rcases List.mem_append.1 hb' with h | h
    · exact hg b h
    · have := h3 b (by simpa [fps] using h)
      omega
  · exact ((hB.trans (hb.mono hB.size)).setCell (Nat.le_refl _) _).setCell (Nat.le_refl _) _
theorem soLins_done {w wr : World} {xs : List (Int × List Int)} (h : SoLins w xs.length xs wr) : New lins w xs wr [.slice (some ⟨w.heap.size, 0, none⟩) xs.length xs.length] ∧ Below w.heap.size w wr := by
  obtain ⟨es, rfl, hr, hf, he, hn, hg, hB⟩ := h
  refine ⟨?_, hB⟩
  by_cases h0 : es = []
  · subst h0
    exact ⟨[], ⟨_, _, rfl, Nat.le_refl _, Or.inl ⟨rfl, rfl⟩⟩, List.nodup_nil, fun b h => by cases h⟩
  · rw [Nat.sub_self, show zcells 0 = [] from rfl, List.append_nil] at hr
    have hl := lin_len he
    have hne : cells es ≠ [] := fun e => by
      rw [e] at hl
      have : 0 < es.length := List.length_pos_iff.2 h0
      simp at hl
      omega
    obtain ⟨b, o, e, ⟨h1, h2, h3⟩, hc⟩ := hr hne
    refine ⟨w.heap.size :: fps es, ⟨_, _, rfl, Nat.le_refl _, Or.inr ⟨w.heap.size, 0, es, rfl, rfl, h0, rfl, by omega, he, hr, fun _ => by rw [hl, ← vals_len]; exact hf⟩⟩, List.nodup_cons.2 ⟨fun h => by have := hg _ h; omega, hn⟩, fun b hb => ?_⟩
    rcases List.mem_cons.1 hb with rfl | hb
    · exact Nat.le_refl _
    · have := hg b hb; omega

/-- The k-th expression of a slice of them. -/
theorem lins_at {q : Bool} {w : World} {fp : List Nat} {A : Option Addr} {c : Nat} {xs : List (Int × List Int)} (h : lins.rep q w fp [.slice A xs.length c] xs) {k : Nat} (hk : k < xs.length) :
    ∃ b o B d lo hi, A = some ⟨b, o, none⟩ ∧ b < w.heap.size ∧ w.cell? ⟨b, o + k * 2, none⟩ = some (.int .i64 xs[k].1) ∧ w.cell? ⟨b, o + k * 2 + 1, none⟩ = some (.slice B xs[k].2.length d) ∧ xs[k].2.length ≤ d ∧ Row lo hi w B (IntK.iv xs[k].2) := by
  obtain ⟨A', c', e, hc, ⟨rfl, rfl⟩ | ⟨b, o, es, rfl, rfl, hne, rfl, hl, he, hr, hf⟩⟩ := h
  · simp at hk
  · injection e with e _
    injection e with e1 e2 e3
    subst e1; subst e3
    have hk' : k < es.length := by rwa [vals_len] at hk
    have hx : (vals es)[k] = es[k].2.2 := by simp [vals]
    have hm := List.getElem_mem hk'
    obtain ⟨B, d, lo, hi, hcs, hd, hrow, _, _⟩ := lin_open (he _ hm)
    have hlen := fun e h => lin.len (he e h)
    have c0 := cells_at (n := 2) hlen hk' (i := 0) (by omega)
    have c1 := cells_at (n := 2) hlen hk' (i := 1) (by omega)
    rw [hcs] at c0 c1
    obtain ⟨b', o', e, h1, h2⟩ := hr (fun e => by rw [e] at c0; simp at c0)
    injection e with e; injection e with e1 e2; subst e1; subst e2
    have g0 := h2 (k * 2 + 0) _ c0
    have g1 := h2 (k * 2 + 1) _ c1
    refine ⟨b, o, B, d, lo, hi, rfl, hl, ?_, ?_, ?_, ?_⟩
    · rw [hx]; simpa using g0
    · rw [hx]; simpa [Nat.add_assoc] using g1
    · rw [hx]; exact hd
    · rw [hx]; exact hrow

/-- What toLinS hands back. -/
def CopiedLins (w : World) (xs : List (Int × List Int)) (e : Ending) (w' : World) : Prop := ∃ A, e = .returned (.slice A xs.length xs.length) ∧ New lins w xs w' [.slice A xs.length xs.length] ∧ Below w.heap.size w w'
end Mem
end Go.Proofs.YtaepfdgfjcdidaaGreatDoor
