import Derived.Test.YtgpjgjjadhmkhaaRepGen
import Derived.Deep.RegionLaw
/-
  Slices of linear expressions: size, comparison, marks.
-/
namespace Go.Proofs.Ytgpjgjjadhmkhaa
open Go.RowKit
namespace Mem
open RowK

theorem take_succ {α : Type} {xs : List α} {k : Nat} (h : k < xs.length) : xs.take (k + 1) = xs.take k ++ [xs[k]] := by rw [List.take_add_one, List.getElem?_eq_getElem h]; rfl
def lenSum (xs : List (Int × List Int)) : Nat := (xs.map fun x => x.2.length).sum
theorem lenSum_snoc (xs : List (Int × List Int)) (x : Int × List Int) : lenSum (xs ++ [x]) = lenSum xs + x.2.length := by simp [lenSum]
theorem lenSum_take (xs : List (Int × List Int)) (k : Nat) : lenSum (xs.take k) ≤ lenSum xs := by
  have h : lenSum xs = lenSum (xs.take k) + lenSum (xs.drop k) := by
    unfold lenSum
    rw [← List.sum_append, ← List.map_append, List.take_append_drop]
  omega

def SzRel (w : World) (xs : List (Int × List Int)) (m : Nat) (x i : Value) (wr : World) : Prop :=
  ∃ k l : Nat, k ≤ xs.length ∧ i = .int .i64 k ∧ x = .int .i64 l ∧ l + lenSum (xs.take k) + xs.length = m ∧ Below w.heap.size w wr
end Mem
end Go.Proofs.Ytgpjgjjadhmkhaa

/-
  Slices of linear expressions: marks.
-/
namespace Go.Proofs.Ytgpjgjjadhmkhaa
open Go.RowKit
namespace Mem
open RowK

/-- The expressions, numbered from k on. -/
def marksL (k : Nat) : List (Int × List Int) → List (Int × List Int)
  | [] => []
  | x :: xs => ((k : Int), IntK.marks (k + 1) x.2.length) :: marksL (k + 1 + x.2.length) xs
theorem linsSize_append (a b : List (Int × List Int)) : linsSize (a ++ b) = linsSize a + linsSize b := by simp [linsSize]; omega
theorem marksL_append : ∀ (a b : List (Int × List Int)) (k : Nat), marksL k (a ++ b) = marksL k a ++ marksL (k + linsSize a) b
  | [], b, k => by simp [marksL, linsSize]
  | x :: a, b, k => by
    rw [List.cons_append, marksL, marksL, marksL_append a b, linsSize_cons, show k + 1 + x.2.length + linsSize a = k + (linsSize a + 1 + x.2.length) by omega]
    rfl
theorem marksL_snoc (a : List (Int × List Int)) (x : Int × List Int) (k : Nat) : marksL k (a ++ [x]) = marksL k a ++ [(((k + linsSize a : Nat) : Int), IntK.marks (k + linsSize a + 1) x.2.length)] := by
  rw [marksL_append]; rfl
theorem marksL_len (k : Nat) : ∀ xs : List (Int × List Int), (marksL k xs).length = xs.length := by
  intro xs
  induction xs generalizing k with
  | nil => rfl
  | cons x xs ih => rw [marksL, List.length_cons, ih, List.length_cons]
theorem linsSize_marks (k : Nat) : ∀ xs : List (Int × List Int), linsSize (marksL k xs) = linsSize xs := by
  intro xs
  induction xs generalizing k with
  | nil => rfl
  | cons x xs ih => rw [marksL, linsSize_cons, linsSize_cons, ih, IntK.marks_length]
theorem marksL_at (k : Nat) (xs : List (Int × List Int)) {j : Nat} (hj : j < xs.length) (h : j < (marksL k xs).length) : (marksL k xs)[j] = (((k + linsSize (xs.take j) : Nat) : Int), IntK.marks (k + linsSize (xs.take j) + 1) xs[j].2.length) := by
  have e : marksL k xs = marksL k (xs.take j) ++ marksL (k + linsSize (xs.take j)) (xs.drop j) := by rw [← marksL_append, List.take_append_drop]
  have hl : (marksL k (xs.take j)).length = j := by rw [marksL_len, List.length_take]; omega
  have h2 : (marksL k xs)[j]? = some (((k + linsSize (xs.take j) : Nat) : Int), IntK.marks (k + linsSize (xs.take j) + 1) xs[j].2.length) := by
    rw [e, List.getElem?_append_right (by omega), hl, Nat.sub_self, List.drop_eq_getElem_cons hj]
    rfl
  rw [List.getElem?_eq_getElem h] at h2
  exact Option.some.inj h2

def HRel (w : World) (xs : List (Int × List Int)) (k0 : Nat) (x i : Value) (wr : World) : Prop :=
  ∃ k l : Nat, k ≤ xs.length ∧ i = .int .i64 k ∧ x = .int .i64 l ∧ l = k0 + linsSize (xs.take k) ∧ Below w.heap.size w wr
theorem linsSize_take (xs : List (Int × List Int)) (k : Nat) : linsSize (xs.take k) ≤ linsSize xs := by
  have h : linsSize xs = linsSize (xs.take k) + linsSize (xs.drop k) := by rw [← linsSize_append, List.take_append_drop]
  omega

/-- The first ones are numbered, the others still as they were. -/
def MarkRel (fp : List Nat) (w : World) (xs : List (Int × List Int)) (A : Option Addr) (k0 : Nat) (x i : Value) (wr : World) : Prop :=
  ∃ (k l b o : Nat) (done rest : List (El (Int × List Int))), k ≤ xs.length ∧ i = .int .i64 k ∧ x = .int .i64 l ∧ l = k0 + linsSize (xs.take k) ∧ A = some ⟨b, o, none⟩ ∧ b < wr.heap.size ∧ done.length = k ∧
    Row b (b + 1) wr A (cells (done ++ rest)) ∧ Free wr A (xs.length * 2) ∧ (∀ e ∈ done ++ rest, lin.rep true wr e.1 e.2.1 e.2.2) ∧ fp = b :: fps (done ++ rest) ∧ fp.Nodup ∧ vals done = marksL k0 (xs.take k) ∧ vals rest = xs.drop k ∧ ModF fp w wr
theorem fps_mid {a b : List (El (Int × List Int))} {e : El (Int × List Int)} {B : Nat} (h : (B :: fps (a ++ e :: b)).Nodup) : (∀ x ∈ a ++ b, ∀ i ∈ x.1, i ∉ e.1 ∧ i ≠ B) ∧ (∀ i ∈ e.1, i ≠ B) := by
  obtain ⟨h1, h2⟩ := List.nodup_cons.1 h
  have hf : fps (a ++ e :: b) = fps a ++ (e.1 ++ fps b) := by simp [fps]
  rw [hf] at h1 h2
  obtain ⟨h3, h4, h5⟩ := List.nodup_append.1 h2
  obtain ⟨h6, h7, h8⟩ := List.nodup_append.1 h4
  refine ⟨fun x hx i hi => ?_, fun i hi e => h1 (e ▸ List.mem_append_right _ (List.mem_append_left _ hi))⟩
  rcases List.mem_append.1 hx with hx | hx
  · have := mem_fps hx hi
    exact ⟨fun h => h5 i this i (List.mem_append_left _ h) rfl, fun e => h1 (e ▸ List.mem_append_left _ this)⟩
  · have := mem_fps hx hi
    exact ⟨fun h => h8 i h i this rfl, fun e => h1 (e ▸ List.mem_append_right _ (List.mem_append_right _ this))⟩

/-- What the round at k needs, and what it leaves. -/
def MarkAt (fp : List Nat) (w : World) (xs : List (Int × List Int)) (A : Option Addr) (k0 k l : Nat) (zs : List Int) (wr : World) : Prop :=
  ∃ b o B c lo hi z, A = some ⟨b, o, none⟩ ∧ wr.cell? ⟨b, o + k * 2, none⟩ = some (.int .i64 z) ∧ wr.cell? ⟨b, o + k * 2 + 1, none⟩ = some (.slice B zs.length c) ∧ wr.frozen? ⟨b, o + k * 2, none⟩ = false ∧
    (b < lo ∨ hi ≤ b) ∧ Row lo hi wr B (IntK.iv zs) ∧ Free wr B zs.length ∧
    ∀ w2, Row lo hi w2 B (IntK.iv (IntK.marks (l + 1) zs.length)) → Mod lo hi (wr.setCell ⟨b, o + k * 2, none⟩ (.int .i64 l)) w2 → Free w2 B zs.length → MarkRel fp w xs A k0 (.int .i64 ((l + 1 + zs.length : Nat) : Int)) (.int .i64 ((k + 1 : Nat) : Int)) w2
theorem row_setAt {lo hi : Nat} {w : World} {A : Option Addr} {vs : List Value} {b o : Nat} (h : Row lo hi w A vs) (e : A = some ⟨b, o, none⟩) {k : Nat} (hk : k < vs.length) (v : Value) : Row lo hi (w.setCell ⟨b, o + k, none⟩ v) A (vs.set k v) := by
  subst e
  exact h.store hk v
theorem mark_at {fp : List Nat} {w wr : World} {xs : List (Int × List Int)} {A : Option Addr} {k0 k l : Nat} (h : MarkRel fp w xs A k0 (.int .i64 l) (.int .i64 k) wr) (hk : k < xs.length) : MarkAt fp w xs A k0 k l xs[k].2 wr := by
  obtain ⟨k', l', b, o, done, rest, hkl, e1, e2, hsum, rfl, hb, hdl, hr, hf, he, rfl, hn, hv1, hv2, hm⟩ := h
  injection e1 with _ e1
  injection e2 with _ e2
  obtain rfl : k = k' := by omega
  obtain rfl : l = l' := by omega
  clear e1 e2
  obtain ⟨e, rest, rfl⟩ : ∃ e r, rest = e :: r := by
    cases rest with
    | nil => rw [List.drop_eq_getElem_cons hk] at hv2; cases hv2
    | cons e r => exact ⟨e, r, rfl⟩
  rw [List.drop_eq_getElem_cons hk] at hv2
  have hv2' : e.2.2 = xs[k] ∧ vals rest = xs.drop (k + 1) := by
    unfold vals at hv2 ⊢
    rw [List.map_cons] at hv2
    injection hv2 with a b
    exact ⟨a, b⟩
  obtain ⟨hx, hv3⟩ := hv2'
  have hem : e ∈ done ++ e :: rest := List.mem_append_right _ List.mem_cons_self
  have hre := he e hem
  obtain ⟨B, c, lo, hi, hcs, hc, hrow, hfree, hint⟩ := lin_open hre
  obtain ⟨hd1, hd2⟩ := fps_mid hn
  have hlen := fun e h => lin.len (he e h)
  have hlenS := lin_len he
  have hxl : (done ++ e :: rest).length = xs.length := by
    have h1 := congrArg List.length hv1
    have h2 := congrArg List.length hv3
    rw [vals_len, marksL_len, List.length_take] at h1
    rw [vals_len, List.length_drop] at h2
    simp
    omega
  have hat : (done ++ e :: rest)[k]'(by omega) = e := by
    rw [List.getElem_append_right (by omega)]
    simp [hdl]
  have c0 := cells_at (n := 2) hlen (k := k) (by omega) (i := 0) (by omega)
  have c1 := cells_at (n := 2) hlen (k := k) (by omega) (i := 1) (by omega)
  rw [hat, hcs] at c0 c1
  obtain ⟨b', o', e', h1, h2⟩ := hr (fun e => by rw [e] at c0; simp at c0)
  injection e' with e'; injection e' with e1 e2; subst e1; subst e2
  have g0 := h2 (k * 2 + 0) _ c0
  have g1 := h2 (k * 2 + 1) _ c1
  have f0 := hf (by omega) b o rfl (k * 2) (by omega)
  rw [← hx]
  have hbn : b < lo ∨ hi ≤ b := by
    rcases Nat.lt_or_ge b lo with h | h
    · exact Or.inl h
    · rcases Nat.lt_or_ge b hi with h' | h'
      · exact absurd rfl (hd2 b ((hint b).1 ⟨h, h'⟩))
      · exact Or.inr h'
  refine ⟨b, o, B, c, lo, hi, e.2.2.1, rfl, by simpa using g0, by simpa [Nat.add_assoc] using g1, f0, hbn, hrow, hfree rfl, fun w2 r2 m2 f2 => ?_⟩
  have ms : ModF [b] wr (wr.setCell ⟨b, o + k * 2, none⟩ (.int .i64 l)) := ModF.set _ (p := ⟨b, o + k * 2, none⟩) (by simp) _
  have m2F : ModF e.1 (wr.setCell ⟨b, o + k * 2, none⟩ (.int .i64 l)) w2 := ⟨m2.os, m2.tape, m2.output, m2.size, fun i hii hn => m2.block i hii (by
    rcases Nat.lt_or_ge i lo with h | h
    · exact Or.inl h
    · rcases Nat.lt_or_ge i hi with h' | h'
      · exact absurd ((hint i).1 ⟨h, h'⟩) hn
      · exact Or.inr h')⟩
  have hfps : fps ((done ++ [(e.1, [.int .i64 l, .slice B e.2.2.2.length c], ((l : Int), IntK.marks (l + 1) e.2.2.2.length))]) ++ rest) = fps (done ++ e :: rest) := by simp [fps]
  have hcells : cells ((done ++ [(e.1, [.int .i64 l, .slice B e.2.2.2.length c], ((l : Int), IntK.marks (l + 1) e.2.2.2.length))]) ++ rest) = (cells (done ++ e :: rest)).set (k * 2) (.int .i64 l) := by
    have hld : (cells done).length = k * 2 := by rw [cells_len (n := 2) fun e he => hlen e (List.mem_append_left _ he), hdl]
    rw [cells_append done (e :: rest), List.set_append_right _ _ (by omega), hld, Nat.sub_self]
    simp only [cells, List.flatMap_append, List.flatMap_cons, hcs, List.append_assoc, List.cons_append, List.nil_append, List.set_cons_zero]
  have hsz : b < w2.heap.size := Nat.lt_of_lt_of_le (by simpa using hb) m2.size
  refine ⟨k + 1, l + 1 + e.2.2.2.length, b, o, done ++ [(e.1, [.int .i64 l, .slice B e.2.2.2.length c], ((l : Int), IntK.marks (l + 1) e.2.2.2.length))], rest, hk, rfl, rfl, ?_, rfl, hsz, by simp [hdl], ?_, ?_, ?_, by rw [hfps], hn, ?_, hv3, ?_⟩
  · have h3 : linsSize (xs.take (k + 1)) = linsSize (xs.take k) + 1 + xs[k].2.length := by
      rw [take_succ hk, linsSize_append]
      simp [linsSize]
      omega
    rw [← hx] at h3
    omega
  · rw [hcells]
    have := (row_setAt hr rfl (k := k * 2) (by rw [hlenS]; omega) (.int .i64 l))
    exact this.keep m2 (by omega)
  · have := hf.set ⟨b, o + k * 2, none⟩ (.int .i64 l)
    rw [← hxl, ← hlenS] at this ⊢
    have hr' := row_setAt hr rfl (k := k * 2) (by rw [hlenS]; omega) (.int .i64 l)
    exact this.keep hr' (by rw [List.length_set]; exact Nat.le_refl _) m2 (by omega)
  · intro x hx'
    rcases List.mem_append.1 hx' with hx' | hx'
    · rcases List.mem_append.1 hx' with hx' | hx'
      · have hd := hd1 x (List.mem_append_left _ hx')
        exact Rep.keepF (Rep.keepF (he x (List.mem_append_left _ hx')) ms (fun i hi => by have := (hd i hi).2; simpa using this)) m2F (fun i hi => (hd i hi).1)
      · rw [List.mem_singleton.1 hx']
        refine ⟨[], e.1, _, _, rfl, rfl, ⟨rfl, rfl⟩, ?_⟩
        obtain ⟨fp2, q1, q2, q3⟩ := ints_close (q := true) (c := c) r2 (fun _ => by rw [IntK.marks_length]; exact f2) (by rw [IntK.marks_length]; exact hc)
        obtain ⟨A', c', e5, hc5, h5⟩ := q1
        rw [IntK.marks_length] at e5
        refine ⟨B, c, by rw [IntK.marks_length], by rw [IntK.marks_length]; exact hc, ?_⟩
        obtain ⟨_, f2', _, c2', e6, e7, ⟨e8, _⟩, h6⟩ := hre
        rw [e8, List.nil_append] at e6
        subst e6
        obtain ⟨A6, c6, e9, _, h7⟩ := h6
        rcases h7 with ⟨h8, h9⟩ | ⟨b7, o7, es7, h8, h9, h10, h11, h12, h13, h14, h15⟩
        · refine Or.inl ⟨?_, h9⟩
          rw [h8]
          rfl
        · have hne : e.2.2.2 ≠ [] := fun e => h10 (by rw [h9] at e; simpa [vals] using e)
          have hlt : 0 < e.2.2.2.length := List.length_pos_iff.2 hne
          rcases h5 with ⟨h16, _⟩ | ⟨b8, o8, es8, h16, h17, h18, h19, h20, h21, h22, h23⟩
          · exact absurd (List.eq_nil_of_length_eq_zero (by simpa [IntK.marks_length] using congrArg List.length h16)) hne
          · injection e5 with e5 _
            injection e5 with e5a e5b e5c
            have hB8 : B = some ⟨b8, o8, none⟩ := e5a.trans h16
            have hi13 := (int_cells h13).2
            rw [hi13] at h11
            have hi21 := (int_cells h21).2
            refine Or.inr ⟨b8, o8, es8, hB8, h17, h18, ?_, h20, h21, ?_, ?_⟩
            · rw [hi21]
              have hb8 : b8 ∈ e.1 := by
                refine (hint b8).1 ?_
                have := q3 b8 (by rw [h19]; exact List.mem_cons_self)
                exact this
              rw [h11] at hb8 ⊢
              simp at hb8
              rw [hb8]
            · rw [e5a]; exact h22
            · rw [e5a]; exact h23
    · have hd := hd1 x (List.mem_append_right _ hx')
      exact Rep.keepF (Rep.keepF (he x (List.mem_append_right _ (List.mem_cons_of_mem _ hx'))) ms (fun i hi => by have := (hd i hi).2; simpa using this)) m2F (fun i hi => (hd i hi).1)
  · rw [take_succ hk, marksL_snoc, vals_append, hv1, ← hsum, ← hx]
    rfl
  · refine hm.trans ((ms.wider (by simp)).trans (m2F.wider (fun i hi => List.mem_cons_of_mem _ (mem_fps hem hi))))
theorem mark_start {w : World} {fp : List Nat} {A : Option Addr} {c : Nat} {xs : List (Int × List Int)} (k0 : Nat) (h : lins.rep true w fp [.slice A xs.length c] xs) (hn : fp.Nodup) (hne : xs ≠ []) : MarkRel fp w xs A k0 (.int .i64 k0) (.int .i64 0) w := by
  obtain ⟨A', c', e, hc, ⟨rfl, rfl⟩ | ⟨b, o, es, rfl, rfl, hne, rfl, hl, he, hr, hf⟩⟩ := h
  · exact absurd rfl hne
  · injection e with e _
    injection e with e1 e2 e3
    subst e1
    refine ⟨0, k0, b, o, [], es, Nat.zero_le _, rfl, rfl, by simp [linsSize], rfl, hl, rfl, hr, ?_, he, rfl, hn, rfl, rfl, ModF.refl _ _⟩
    rw [vals_len, ← lin_len he]
    exact hf rfl
theorem mark_end {fp : List Nat} {w wr : World} {xs : List (Int × List Int)} {A : Option Addr} {k0 c : Nat} {x : Value} (hc : xs.length ≤ c) (hne : xs ≠ []) (h : MarkRel fp w xs A k0 x (.int .i64 (xs.length : Int)) wr) : lins.rep true wr fp [.slice A xs.length c] (marksL k0 xs) ∧ ModF fp w wr ∧ x = .int .i64 ((k0 : Int) + linsSize xs) := by
  obtain ⟨k', l', b, o, done, rest, hkl, e1, rfl, hsum, rfl, hb, hdl, hr, hf, he, rfl, hn, hv1, hv2, hm⟩ := h
  injection e1 with _ e1
  obtain rfl : xs.length = k' := by omega
  rw [List.take_length] at hsum hv1
  rw [List.drop_length] at hv2
  obtain rfl : rest = [] := by simpa [vals] using hv2
  rw [List.append_nil] at *
  have hd : done ≠ [] := fun e => hne (List.eq_nil_of_length_eq_zero (by rw [← hdl, e]; rfl))
  refine ⟨⟨_, c, by rw [marksL_len], by rw [marksL_len]; exact hc, Or.inr ⟨b, o, done, rfl, hv1.symm, hd, rfl, hb, he, hr, fun _ => ?_⟩⟩, hm, congrArg (Value.int .i64) (by omega)⟩
  rw [lin_len he, hdl]
  exact hf

/-- What markLinS leaves. -/
def MarkedS (fp : List Nat) (w : World) (A : Option Addr) (c k0 : Nat) (xs : List (Int × List Int)) (e : Ending) (w' : World) : Prop :=
  e = .returned (.int .i64 ((k0 : Int) + linsSize xs)) ∧ lins.rep true w' fp [.slice A xs.length c] (marksL k0 xs) ∧ ModF fp w w'
end Mem
end Go.Proofs.Ytgpjgjjadhmkhaa

/-
  Systems as data in memory: the laws' helpers.
-/
namespace Go.Proofs.Ytgpjgjjadhmkhaa
open Go.RowKit
namespace Mem
open RowK

def sys : Rep (Int × List (Int × List Int)) := Rep.prod Rep.int lins
theorem sys_open {q : Bool} {w : World} {fp : List Nat} {cs : List Value} {p : Int × List (Int × List Int)} (h : sys.rep q w fp cs p) : ∃ A c, cs = [.int .i64 p.1, .slice A p.2.length c] ∧ lins.rep q w fp [.slice A p.2.length c] p.2 := by
  obtain ⟨f1, f2, c1, c2, rfl, rfl, ⟨rfl, rfl⟩, h2⟩ := h
  obtain ⟨A, c, rfl, h3⟩ := h2
  exact ⟨A, c, rfl, A, c, rfl, h3⟩
theorem sys_close {q : Bool} {w : World} {fp : List Nat} {A : Option Addr} {c : Nat} {n : Int} {xs : List (Int × List Int)} (h : lins.rep q w fp [.slice A xs.length c] xs) : sys.rep q w fp [.int .i64 n, .slice A xs.length c] (n, xs) :=
  ⟨[], fp, _, _, rfl, rfl, ⟨rfl, rfl⟩, h⟩
theorem New.keep {α : Type} {r : Rep α} {w w1 w2 : World} {lo hi : Nat} {x : α} {cs : List Value} (h : New r w x w1 cs) (m : Mod lo hi w1 w2) (hd : hi ≤ w.heap.size) : New r w x w2 cs := by
  obtain ⟨fp, h1, h2, h3⟩ := h
  exact ⟨fp, Rep.keep h1 m (fun b hb => Or.inr (by have := h3 b hb; omega)), h2, h3⟩
theorem New.older {α : Type} {r : Rep α} {w w0 w1 : World} {x : α} {cs : List Value} (h : New r w x w1 cs) (hw : w0.heap.size ≤ w.heap.size) : New r w0 x w1 cs := by
  obtain ⟨fp, h1, h2, h3⟩ := h
  exact ⟨fp, h1, h2, fun b hb => Nat.le_trans hw (h3 b hb)⟩
theorem New.sys {w w1 : World} {A : Option Addr} {c : Nat} {n : Int} {xs : List (Int × List Int)} (h : New lins w xs w1 [.slice A xs.length c]) : New Mem.sys w (n, xs) w1 [.int .i64 n, .slice A xs.length c] := by
  obtain ⟨fp, h1, h2, h3⟩ := h
  exact ⟨fp, sys_close h1, h2, h3⟩

def CopiedSys (w : World) (n : Int) (xs : List (Int × List Int)) (e : Ending) (w' : World) : Prop :=
  ∃ A, e = .returned (.agg #[.int .i64 n, .slice A xs.length xs.length]) ∧ New sys w (n, xs) w' [.int .i64 n, .slice A xs.length xs.length] ∧ Below w.heap.size w w'
end Mem
end Go.Proofs.Ytgpjgjjadhmkhaa
