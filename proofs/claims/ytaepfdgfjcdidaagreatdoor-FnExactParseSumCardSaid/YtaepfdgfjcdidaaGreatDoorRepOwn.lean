import Derived.Test.YtaepfdgfjcdidaaGreatDoorRep
import Derived.Test.YtaepfdgfjcdidaaGreatDoorRowss
import Derived.Test.YtaepfdgfjcdidaaGreatDoorStrRow
/-
  A slice that a call has made, element by element, whatever its elements: by append ('Owned'), or by make and stores ('Filling').
-/
namespace Go.Proofs.YtaepfdgfjcdidaaGreatDoor
open Go.RowKit
namespace Mem
open RowK
variable {α : Type}

theorem lvar_grown {w w' : World} {b : Nat} {cs : Array Value} {row : Option Nat} (h : Lvar w b cs) (hg : w.grownBy w' row) (hr : row ≠ some b) : Lvar w' b cs := by
  have hl := h.lt
  obtain ⟨T, h⟩ := h
  exact ⟨T, by rw [hg.block b hl (fun e => hr e.symm)]; exact h⟩

/-- Its row and the blocks of its elements are all different, and 'ok'. -/
def Owned (r : Rep α) (e : TypeId) (ok : Nat → Prop) (w : World) (v : Value) (xs : List α) : Prop :=
  ∃ es : List (El α), vals es = xs ∧ w.ownsRow 0 e r.n v xs.length (cells es) ∧ (∀ x ∈ es, r.rep true w x.1 x.2.1 x.2.2) ∧ (fps es).Nodup ∧ (∀ g, v.ownBlock = some g → ok g) ∧ ∀ b ∈ fps es, ok b ∧ v.ownBlock ≠ some b

section
variable {r : Rep α} {e : TypeId} {ok ok' : Nat → Prop} {w w' : World} {v : Value} {xs : List α}
theorem Owned.nil (r : Rep α) (e : TypeId) (ok : Nat → Prop) (w : World) : Owned r e ok w (.slice none 0 0) [] :=
  ⟨[], rfl, World.ownsRow_nil w 0 _ _, (fun _ h => by cases h), List.nodup_nil, (fun _ h => by cases h), (fun _ h => by cases h)⟩
theorem Owned.grown {row : Option Nat} (h : Owned r e ok w v xs) (hg : w.grownBy w' row) (hr : ∀ b, row = some b → ¬ ok b) : Owned r e ok w' v xs := by
  obtain ⟨es, h1, h2, h3, h4, h5, h6⟩ := h
  refine ⟨es, h1, h2.kept hg ?_, fun x hx => r.same (h3 x hx) hg.size (fun b hb => hg.block b (r.lt (h3 x hx) b hb) (fun e' => hr b e'.symm (h6 b (mem_fps hx hb)).1)), h4, h5, h6⟩
  by_cases hv : v.ownBlock = none
  · exact Or.inl hv
  · refine Or.inr fun e' => ?_
    cases hrw : v.ownBlock with
    | none => exact hv hrw
    | some g => exact hr g (by rw [← e', hrw]) (h5 g hrw)
theorem Owned.below (h : Owned r e ok w v xs) (hb : Below w.heap.size w w') : Owned r e ok w' v xs := h.grown (row := none) (StrK.only_below hb none) (fun _ e => by cases e)
theorem Owned.set (h : Owned r e ok w v xs) {b : Nat} (hb : ¬ ok b) (o : Nat) (u : Value) : Owned r e ok (w.setCell ⟨b, o, none⟩ u) v xs := h.grown (StrK.only_set w b o u) (fun r e => by injection e with e; subst e; exact hb)
theorem Owned.to (h : Owned r e ok w v xs) (hk : ∀ b, b < w.heap.size → ok b → ok' b) : Owned r e ok' w v xs := by
  obtain ⟨es, h1, h2, h3, h4, h5, h6⟩ := h
  refine ⟨es, h1, h2, h3, h4, fun g hg => hk g (h2.lt g hg).2 (h5 g hg), fun b hb => ⟨hk b ?_ (h6 b hb).1, (h6 b hb).2⟩⟩
  obtain ⟨x, hx, hb'⟩ := List.mem_flatMap.1 hb
  exact r.lt (h3 x hx) b hb'
/-- One more. -/
theorem Owned.snoc {m : Nat} {w4 w5 : World} {v5 : Value} {es : List (El α)} {fp : List Nat} {cs : List Value} {x : α} (hv : vals es = xs)
    (he : ∀ y ∈ es, r.rep true w4 y.1 y.2.1 y.2.2) (hlt : ∀ b ∈ fps es, b < m) (hn : (fps es).Nodup) (hd : ∀ b ∈ fps es, ok b ∧ v.ownBlock ≠ some b) (hown : ∀ g, v.ownBlock = some g → ok g ∧ g < m)
    (hx : r.rep true w4 fp cs x) (hxn : fp.Nodup) (hxm : ∀ b ∈ fp, m ≤ b) (hok : ∀ b, m ≤ b → ok b)
    (h5 : w5.ownsRow 0 e r.n v5 (xs.length + 1) (cells es ++ cs)) (hg : w4.grownBy w5 v.ownBlock) (hw : v5.ownBlock = v.ownBlock ∨ ∀ g, v5.ownBlock = some g → w4.heap.size ≤ g) (hm : m ≤ w4.heap.size) :
    Owned r e ok w5 v5 (xs ++ [x]) := by
  have hne : ∀ b ∈ fps es ++ fp, b < w4.heap.size ∧ ok b ∧ v.ownBlock ≠ some b := fun b hb => by
    rcases List.mem_append.1 hb with hb | hb
    · obtain ⟨y, h6, h7⟩ := List.mem_flatMap.1 hb
      exact ⟨r.lt (he y h6) b h7, hd b hb⟩
    · have h6 := hxm b hb
      exact ⟨r.lt hx b hb, hok b h6, fun e => by have := (hown b e).2; omega⟩
  refine ⟨es ++ [(fp, cs, x)], by rw [vals_append, hv]; rfl, ?_, ?_, ?_, ?_, ?_⟩
  · rw [List.length_append, List.length_singleton, cells_append]
    simpa [cells] using h5
  · intro y h
    rcases List.mem_append.1 h with h | h
    · exact r.same (he y h) hg.size (fun b hb => hg.block b (r.lt (he y h) b hb) (fun e' => (hne b (List.mem_append_left _ (mem_fps h hb))).2.2 e'.symm))
    · rw [List.mem_singleton.1 h]
      exact r.same hx hg.size (fun b hb => hg.block b (r.lt hx b hb) (fun e' => (hne b (List.mem_append_right _ hb)).2.2 e'.symm))
  · rw [fps_append]
    refine List.nodup_append.2 ⟨hn, by simpa [fps] using hxn, fun a ha b hb e => ?_⟩
    subst e
    have h6 := hlt a ha
    have h7 := hxm a (by simpa [fps] using hb)
    omega
  · intro g hg'
    rcases hw with hw | hw
    · exact (hown g (by rw [← hw]; exact hg')).1
    · exact hok g (Nat.le_trans hm (hw g hg'))
  · intro b hb
    rw [fps_append] at hb
    have h6 := hne b (by
      rcases List.mem_append.1 hb with h | h
      · exact List.mem_append_left _ h
      · exact List.mem_append_right _ (by simpa [fps] using h))
    refine ⟨h6.2.1, fun e => ?_⟩
    rcases hw with hw | hw
    · exact h6.2.2 (by rw [← hw]; exact e)
    · have := hw b e
      omega
/-- .. read as a slice. -/
theorem Owned.rep (h : Owned r e ok w v xs) (hn : 0 < r.n) : ∃ A c fp, v = .slice A xs.length c ∧ (Rep.slice r).rep true w fp [.slice A xs.length c] xs ∧ fp.Nodup ∧ ∀ b ∈ fp, ok b := by
  obtain ⟨es, rfl, h2, h3, h4, h5, h6⟩ := h
  obtain ⟨A, c, rfl, hr, hf, hc, hb⟩ := RowK.of_own h2
  by_cases h0 : es = []
  · subst h0
    exact ⟨A, c, [], rfl, ⟨A, c, rfl, hc, Or.inl ⟨rfl, rfl⟩⟩, List.nodup_nil, fun b h => by cases h⟩
  · have hl := cells_len (n := r.n) (es := es) (fun x hx => r.len (h3 x hx))
    have hne : cells es ≠ [] := fun e => by
      rw [e] at hl
      have h7 : 0 < es.length := List.length_pos_iff.2 h0
      have := Nat.mul_pos h7 hn
      simp at hl
      omega
    obtain ⟨b, o, rfl, ⟨k1, k2, k3⟩, hcell⟩ := hr hne
    have hob : (Value.slice (some ⟨b, o, none⟩) (vals es).length c).ownBlock = some b := rfl
    rw [hob] at h6 h5
    refine ⟨_, c, b :: fps es, rfl, ⟨_, c, rfl, hc, Or.inr ⟨b, o, es, rfl, rfl, h0, rfl, k2, h3, fun _ => ⟨b, o, rfl, ⟨Nat.le_refl _, Nat.lt_succ_self _, by omega⟩, hcell⟩, fun _ => hf⟩⟩, List.nodup_cons.2 ⟨fun h => (h6 b h).2 rfl, h4⟩, fun i hi => ?_⟩
    rcases List.mem_cons.1 hi with rfl | hi
    · exact h5 _ rfl
    · exact (h6 i hi).1
end

/-- Made, and filled so far: the block g holds the first ones' cells, and zeros behind them. -/
def Filling (r : Rep α) (e : TypeId) (z : El α) (ok : Nat → Prop) (w : World) (g n : Nat) (xs : List α) : Prop :=
  ∃ es : List (El α), vals es = xs ∧ (∃ cur : Array Value, w.heap[g]? = some (.cells cur e (0, 0)) ∧ cur.toList = cells es ++ cells (List.replicate (n - xs.length) z)) ∧ (∀ x ∈ es, r.rep true w x.1 x.2.1 x.2.2) ∧ (fps es).Nodup ∧ ok g ∧ ∀ b ∈ fps es, ok b ∧ g ≠ b
section
variable {r : Rep α} {e : TypeId} {z : El α} {ok : Nat → Prop} {w w' : World} {g n : Nat} {xs : List α}
theorem Filling.made (w : World) (cur : Array Value) (hc : cur.toList = cells (List.replicate n z)) (hok : ok w.heap.size) : Filling r e z ok (w.alloc (.cells cur e)) w.heap.size n [] :=
  ⟨[], rfl, ⟨cur, heap_alloc_new _ _, by simpa [cells] using hc⟩, (fun _ h => by cases h), List.nodup_nil, hok, (fun _ h => by cases h)⟩
theorem Filling.lt (h : Filling r e z ok w g n xs) : g < w.heap.size := by
  obtain ⟨_, _, ⟨_, h2, _⟩, _⟩ := h
  exact (Array.getElem?_eq_some_iff.1 h2).1
theorem Filling.below (h : Filling r e z ok w g n xs) (hb : Below w.heap.size w w') : Filling r e z ok w' g n xs := by
  have hl := h.lt
  obtain ⟨es, h1, ⟨cur, h2, hc⟩, h3, h4, h5, h6⟩ := h
  exact ⟨es, h1, ⟨cur, by rw [hb.block g hl]; exact h2, hc⟩, fun x hx => Rep.below (h3 x hx) hb, h4, h5, h6⟩
/-- The next one's place. -/
theorem Filling.cell (h : Filling r e z ok w g n xs) (hz : z.2.1.length = r.n) (hk : xs.length < n) {j : Nat} {u : Value} (hj : j < r.n) (hu : z.2.1[j]? = some u) : w.cell? ⟨g, xs.length * r.n + j, none⟩ = some u ∧ w.frozen? ⟨g, xs.length * r.n + j, none⟩ = false := by
  obtain ⟨es, rfl, ⟨cur, h2, hc⟩, h3, _⟩ := h
  have hl := cells_len (n := r.n) (es := es) (fun x hx => r.len (h3 x hx))
  rw [vals_len] at *
  refine ⟨?_, by unfold World.frozen?; rw [h2]; simp⟩
  rw [cell_of_row w g _ cur e (0, 0) h2, ← Array.getElem?_toList, hc, List.getElem?_append_right (by omega), hl, Nat.add_sub_cancel_left]
  have := cells_at (n := r.n) (es := List.replicate (n - es.length) z) (fun y hy => by rw [(List.mem_replicate.1 hy).2]; exact hz) (k := 0) (i := j) (by simp; omega) hj
  rw [Nat.zero_mul, Nat.zero_add] at this
  rw [this]
  simpa using hu
end
/-- Cells stored one behind the other. -/
def stores (w : World) (g : Nat) : Nat → List Value → World
  | _, [] => w
  | o, u :: us => stores (w.setCell ⟨g, o, none⟩ u) g (o + 1) us
theorem stores_modF (g : Nat) : ∀ (us : List Value) (o : Nat) (w : World), ModF [g] w (stores w g o us)
  | [], _, w => ModF.refl _ w
  | u :: us, o, w => (ModF.set w (p := ⟨g, o, none⟩) (by simp) u).trans (stores_modF g us (o + 1) _)
theorem stores_block {g : Nat} {e : TypeId} : ∀ {us : List Value} {o : Nat} {w : World} {cur : Array Value} {a b c : List Value}, w.heap[g]? = some (.cells cur e (0, 0)) → cur.toList = a ++ b ++ c → a.length = o → b.length = us.length →
    ∃ cur' : Array Value, (stores w g o us).heap[g]? = some (.cells cur' e (0, 0)) ∧ cur'.toList = a ++ us ++ c
  | [], o, w, cur, a, b, c, h, hc, ha, hb => ⟨cur, h, by rw [hc, List.eq_nil_of_length_eq_zero hb]⟩
  | u :: us, o, w, cur, a, [], c, h, hc, ha, hb => by simp at hb
  | u :: us, o, w, cur, a, y :: b, c, h, hc, ha, hb => by
    have h1 : (w.setCell ⟨g, o, none⟩ u).heap[g]? = some (.cells (cur.setIfInBounds o u) e (0, 0)) := by
      simp only [World.setCell, Array.getElem?_modify, if_true, h, Option.map_some]
      simp
    have h2 : (cur.setIfInBounds o u).toList = (a ++ [u]) ++ b ++ c := by
      rw [Array.toList_setIfInBounds, hc, List.append_assoc, List.set_append_right _ _ (by omega), ha, Nat.sub_self]
      simp
    obtain ⟨cur', h3, h4⟩ := stores_block (us := us) (o := o + 1) h1 h2 (by simp [ha]) (by simpa using hb)
    exact ⟨cur', h3, by rw [h4]; simp⟩
section
variable {r : Rep α} {e : TypeId} {z : El α} {ok : Nat → Prop} {w w' : World} {g n : Nat} {xs : List α}
/-- One more is stored. -/
theorem Filling.snoc {m : Nat} {fp : List Nat} {x : α} {us : List Value} (h : Filling r e z ok w g n xs) (hz : z.2.1.length = r.n) (hk : xs.length < n) (hb : Below w.heap.size w w') (hm : w.heap.size ≤ m) (hx : r.rep true w' fp us x) (hxn : fp.Nodup) (hxm : ∀ b ∈ fp, m ≤ b) (hok : ∀ b, m ≤ b → ok b) :
    Filling r e z ok (stores w' g (xs.length * r.n) us) g n (xs ++ [x]) := by
  have hlg := h.lt
  obtain ⟨es, rfl, ⟨cur, h2, hc⟩, h3, h4, h5, h6⟩ := h
  have hl := cells_len (n := r.n) (es := es) (fun x hx => r.len (h3 x hx))
  have hold : ∀ b ∈ fps es, b < w.heap.size := fun b hb' => by
    obtain ⟨y, hy, hyb⟩ := List.mem_flatMap.1 hb'
    exact r.lt (h3 y hy) b hyb
  rw [vals_len] at *
  obtain ⟨q, hq⟩ : ∃ q, n - es.length = q + 1 := ⟨n - es.length - 1, by omega⟩
  rw [hq, List.replicate_succ, show cells (z :: List.replicate q z) = z.2.1 ++ cells (List.replicate q z) by simp [cells], ← List.append_assoc] at hc
  have hbl : w'.heap[g]? = some (.cells cur e (0, 0)) := by rw [hb.block g hlg]; exact h2
  obtain ⟨cur', h7, h8⟩ := stores_block (us := us) hbl hc hl (by rw [hz, r.len hx])
  have mm := stores_modF g us (es.length * r.n) w'
  have hg : ∀ b ∈ fp, g ≠ b := fun b hb' e => by have := hxm b hb'; omega
  refine ⟨es ++ [(fp, us, x)], by rw [vals_append]; rfl, ⟨cur', h7, ?_⟩, ?_, ?_, h5, ?_⟩
  · rw [h8, List.length_append, vals_len, List.length_singleton, show n - (es.length + 1) = q by omega, cells_append]
    simp [cells]
  · intro y hy
    rcases List.mem_append.1 hy with hy | hy
    · exact Rep.keepF (Rep.below (h3 y hy) hb) mm (fun b hb' => by have := (h6 b (mem_fps hy hb')).2; simp; exact fun e => this e.symm)
    · rw [List.mem_singleton.1 hy]
      exact Rep.keepF hx mm (fun b hb' => by have := hg b hb'; simp; exact fun e => this e.symm)
  · rw [fps_append]
    refine List.nodup_append.2 ⟨h4, by simpa [fps] using hxn, fun a ha b hb' e => ?_⟩
    subst e
    have h9 := hold a ha
    have h10 := hxm a (by simpa [fps] using hb')
    omega
  · intro b hb'
    rw [fps_append] at hb'
    rcases List.mem_append.1 hb' with h | h
    · exact h6 b h
    · have h9 := by simpa [fps] using h
      exact ⟨hok b (hxm b h9), hg b h9⟩
/-- All stored: the call owns the slice. -/
theorem Filling.done (h : Filling r e z ok w g xs.length xs) (hm : xs.length ≤ maxLen) : Owned r e ok w (.slice (some ⟨g, 0, none⟩) xs.length xs.length) xs := by
  obtain ⟨es, rfl, ⟨cur, h2, hc⟩, h3, h4, h5, h6⟩ := h
  have hl := cells_len (n := r.n) (es := es) (fun x hx => r.len (h3 x hx))
  rw [Nat.sub_self, show cells (List.replicate 0 z) = [] from rfl, List.append_nil] at hc
  have hs : cur.size = (vals es).length * r.n := by rw [vals_len, ← hl, ← hc]; simp
  refine ⟨es, rfl, ⟨by rw [hl, vals_len], Or.inr ⟨g, _, cur, rfl, Nat.zero_le _, h2, Nat.le_refl _, hm, hs, ?_⟩⟩, h3, h4, fun g' hg' => ?_, fun b hb => ⟨(h6 b hb).1, fun e => ?_⟩⟩
  · rw [hc, List.take_of_length_le (by rw [hl, vals_len]; exact Nat.le_refl _)]
  · injection hg' with hg'; exact hg' ▸ h5
  · injection e with e; exact (h6 b hb).2 e
end
end Mem
end Go.Proofs.YtaepfdgfjcdidaaGreatDoor
