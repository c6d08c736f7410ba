import Derived.WalkKit
import Derived.WalkSpells
import Derived.WalkLawsBesides
/-
  Rows of cells in memory, with the stretch of blocks in which they lie ('Row'), and what a call may have written ('Mod').
-/
namespace Go.Proofs.YtaepfdgfjcdidaaDoor
open Go.RowKit
namespace RowK

/-- Behind the call only the blocks from lo to hi, and what is new, may have turned. -/
structure Mod (lo hi : Nat) (w w' : World) : Prop where
  os : w'.os = w.os
  tape : w'.tape = w.tape
  output : w'.output = w.output
  size : w.heap.size ≤ w'.heap.size
  block : ∀ i, i < w.heap.size → (i < lo ∨ hi ≤ i) → w'.heap[i]? = w.heap[i]?

theorem Mod.refl (lo hi : Nat) (w : World) : Mod lo hi w w := ⟨rfl, rfl, rfl, Nat.le_refl _, fun _ _ _ => rfl⟩
theorem Mod.trans {lo hi : Nat} {a b c : World} (h : Mod lo hi a b) (k : Mod lo hi b c) : Mod lo hi a c :=
  ⟨k.os.trans h.os, k.tape.trans h.tape, k.output.trans h.output, Nat.le_trans h.size k.size, fun i hi hn => (k.block i (Nat.lt_of_lt_of_le hi h.size) hn).trans (h.block i hi hn)⟩
theorem Mod.of_below {lo hi : Nat} {w w' : World} (h : Below w.heap.size w w') : Mod lo hi w w' := ⟨h.os, h.tape, h.output, h.size, fun i hi _ => h.block i hi⟩
theorem Mod.set {lo hi : Nat} (w : World) {p : Addr} (h1 : lo ≤ p.block) (h2 : p.block < hi) (v : Value) : Mod lo hi w (w.setCell p v) :=
  ⟨rfl, rfl, rfl, by simp [World.setCell], fun i _ hn => Below.heap_setCell _ _ _ _ (by omega)⟩
theorem Mod.alloc (lo hi : Nat) (w : World) (o : Obj) : Mod lo hi w (w.alloc o) := Mod.of_below ((Below.refl _ _).alloc (Nat.le_refl _) o)
theorem Mod.wider {lo hi lo' hi' : Nat} {w w' : World} (h : Mod lo hi w w') (h1 : lo' ≤ lo) (h2 : hi ≤ hi') : Mod lo' hi' w w' :=
  ⟨h.os, h.tape, h.output, h.size, fun i hi hn => h.block i hi (by omega)⟩
theorem Mod.drewN {lo hi : Nat} {w w' : World} (h : Mod lo hi w w') (n : Nat) : Mod lo hi w (w'.drewN n) := h.trans ⟨rfl, rfl, rfl, Nat.le_refl _, fun _ _ _ => rfl⟩
theorem Mod.drew {lo hi : Nat} {w w' : World} (h : Mod lo hi w w') : Mod lo hi w w'.drew := h.trans ⟨rfl, rfl, rfl, Nat.le_refl _, fun _ _ _ => rfl⟩
theorem below_drewN {b : Nat} {w w' : World} (h : Below b w w') (n : Nat) : Below b w (w'.drewN n) := h.trans ⟨rfl, rfl, rfl, Nat.le_refl _, fun _ _ => rfl⟩
/-- What was written is younger than B: below B nothing has turned. -/
theorem below_mod {B lo hi : Nat} {w w1 w2 : World} (h : Below B w w1) (k : Mod lo hi w1 w2) (h1 : B ≤ lo) (h2 : B ≤ w1.heap.size) : Below B w w2 :=
  h.trans ⟨k.os, k.tape, k.output, k.size, fun i hi => k.block i (by omega) (by omega)⟩
theorem below_step {w w1 w2 : World} (h : Below w.heap.size w w1) (k : Below w1.heap.size w1 w2) : Below w.heap.size w w2 := h.trans (k.mono h.size)

/-- The slice at A holds the cells vs, in a block from lo to hi. -/
def Row (lo hi : Nat) (w : World) (A : Option Addr) (vs : List Value) : Prop :=
  vs ≠ [] → ∃ b o, A = some ⟨b, o, none⟩ ∧ (lo ≤ b ∧ b < hi ∧ hi ≤ w.heap.size) ∧ ∀ j v, vs[j]? = some v → w.cell? ⟨b, o + j, none⟩ = some v
/-- Every place of the slice may be written. -/
def Free (w : World) (A : Option Addr) (n : Nat) : Prop := 0 < n → ∀ b o, A = some ⟨b, o, none⟩ → ∀ j, j < n → w.frozen? ⟨b, o + j, none⟩ = false

theorem Row.keep {lo hi lo' hi' : Nat} {w w' : World} {A : Option Addr} {vs : List Value} (h : Row lo hi w A vs) (hm : Mod lo' hi' w w') (hd : hi ≤ lo' ∨ hi' ≤ lo) : Row lo hi w' A vs := fun hn => by
  obtain ⟨b, o, rfl, ⟨h1, h2, h3⟩, hc⟩ := h hn
  exact ⟨b, o, rfl, ⟨h1, h2, Nat.le_trans h3 hm.size⟩, fun j v hj => by rw [World.cell?_of_block (w := w) (hm.block b (by omega) (by omega))]; exact hc j v hj⟩
theorem Row.below {lo hi : Nat} {w w' : World} {A : Option Addr} {vs : List Value} (h : Row lo hi w A vs) (hb : Below w.heap.size w w') : Row lo hi w' A vs := h.keep (Mod.of_below (lo := hi) (hi := hi) hb) (Or.inl (Nat.le_refl _))
theorem Row.wider {lo hi lo' hi' : Nat} {w : World} {A : Option Addr} {vs : List Value} (h : Row lo hi w A vs) (h1 : lo' ≤ lo) (h2 : hi ≤ hi') (h3 : hi' ≤ w.heap.size) : Row lo' hi' w A vs := fun hn => by
  obtain ⟨b, o, rfl, h4, hc⟩ := h hn
  exact ⟨b, o, rfl, ⟨by omega, by omega, h3⟩, hc⟩
theorem Row.at_ {lo hi : Nat} {w : World} {A : Option Addr} {vs : List Value} (h : Row lo hi w A vs) {k : Nat} (hk : k < vs.length) : ∃ b o, A = some ⟨b, o, none⟩ ∧ (lo ≤ b ∧ b < hi ∧ hi ≤ w.heap.size) ∧ w.cell? ⟨b, o + k, none⟩ = some vs[k] := by
  obtain ⟨b, o, rfl, hlt, hc⟩ := h (fun e => by rw [e] at hk; simp at hk)
  exact ⟨b, o, rfl, hlt, hc k _ (List.getElem?_eq_getElem hk)⟩
theorem row_nil (lo hi : Nat) (w : World) (A : Option Addr) : Row lo hi w A [] := fun h => absurd rfl h

theorem Free.keep {lo hi lo' hi' : Nat} {w w' : World} {A : Option Addr} {vs : List Value} {n : Nat} (h : Free w A n) (hr : Row lo hi w A vs) (hlen : n ≤ vs.length) (hm : Mod lo' hi' w w') (hd : hi ≤ lo' ∨ hi' ≤ lo) : Free w' A n := fun hn b o e j hj => by
  obtain ⟨b', o', e', ⟨h1, h2, h3⟩, _⟩ := hr (fun e => by rw [e] at hlen; simp at hlen; omega)
  rw [e'] at e
  injection e with e; injection e with e1 e2; subst e1; subst e2
  have hf := h hn _ _ e' j hj
  rw [World.frozen?_of_block (w := w) (hm.block b' (by omega) (by omega))]
  exact hf
theorem Free.below {lo hi : Nat} {w w' : World} {A : Option Addr} {vs : List Value} {n : Nat} (h : Free w A n) (hr : Row lo hi w A vs) (hlen : n ≤ vs.length) (hb : Below w.heap.size w w') : Free w' A n := h.keep hr hlen (Mod.of_below (lo := hi) (hi := hi) hb) (Or.inl (Nat.le_refl _))
theorem free_zero (w : World) (A : Option Addr) : Free w A 0 := fun h => absurd h (Nat.lt_irrefl 0)

/-- A row that the call owns. -/
theorem of_own {w : World} {base sz n : Nat} {e : TypeId} {v : Value} {vs : List Value} (h : w.ownsRow base e sz v n vs) :
    ∃ A cap, v = .slice A n cap ∧ Row base w.heap.size w A vs ∧ Free w A vs.length ∧ n ≤ cap ∧ (∀ a, A = some a → base ≤ a.block) := by
  obtain ⟨hlen, h⟩ := h
  rcases h with ⟨rfl, h0⟩ | ⟨g, cap, cur, rfl, hg, hh, hnc, _, hcs, hcur⟩
  · subst h0
    have h0' : vs = [] := List.eq_nil_of_length_eq_zero (by simpa using hlen)
    subst h0'
    exact ⟨none, 0, rfl, row_nil _ _ _ _, free_zero _ _, Nat.le_refl _, (fun a e => by cases e)⟩
  · have hgl : g < w.heap.size := (Array.getElem?_eq_some_iff.1 hh).1
    refine ⟨_, _, rfl, fun _ => ⟨g, 0, rfl, ⟨hg, hgl, Nat.le_refl _⟩, fun j x hj => ?_⟩, fun _ b o e j hj => ?_, hnc, fun a e => ?_⟩
    · rw [Nat.zero_add, cell_of_row w g j cur e (0, 0) hh]
      rw [← hcur, List.getElem?_take] at hj
      split at hj
      · simpa using hj
      · cases hj
    · injection e with e; injection e with e1 e2; subst e1; subst e2
      unfold World.frozen?
      rw [hh]
      simp
    · injection e with e; subst e; exact hg

/-- The rest of a row. -/
theorem Row.drop {lo hi : Nat} {w : World} {b o : Nat} {vs : List Value} (h : Row lo hi w (some ⟨b, o, none⟩) vs) (i : Nat) : Row lo hi w (some ⟨b, o + i, none⟩) (vs.drop i) := fun hn => by
  obtain ⟨b', o', e, h1, hc⟩ := h (fun e => by rw [e] at hn; simp at hn)
  injection e with e; injection e with e1 e2; subst e1; subst e2
  refine ⟨b, o + i, rfl, h1, fun j v hj => ?_⟩
  rw [List.getElem?_drop] at hj
  have := hc (i + j) v hj
  rwa [show o + i + j = o + (i + j) by omega]

/-- A store into a place of the row. -/
theorem Row.store {lo hi : Nat} {w : World} {b o : Nat} {vs : List Value} (h : Row lo hi w (some ⟨b, o, none⟩) vs) {k : Nat} (hk : k < vs.length) (v : Value) : Row lo hi (w.setCell ⟨b, o + k, none⟩ v) (some ⟨b, o, none⟩) (vs.set k v) := fun _ => by
  obtain ⟨b', o', e, h1, hc⟩ := h (fun e => by rw [e] at hk; simp at hk)
  injection e with e; injection e with e1 e2; subst e1; subst e2
  refine ⟨b, o, rfl, by simpa using h1, fun j x hj => ?_⟩
  by_cases e : j = k
  · subst e
    rw [List.getElem?_set_self hk] at hj
    injection hj with hj; subst hj
    exact World.cell?_setCell_same _ _ _ (hc j _ (List.getElem?_eq_getElem hk))
  · rw [List.getElem?_set_ne (by omega)] at hj
    rw [World.cell?_setCell_other _ _ _ _ (by intro h; simp only [Addr.mk.injEq] at h; omega)]
    exact hc j x hj
theorem Free.set {w : World} {A : Option Addr} {n : Nat} (h : Free w A n) (p : Addr) (v : Value) : Free (w.setCell p v) A n := fun hn b o e j hj => by
  rw [World.frozen?_setCell]
  exact h hn b o e j hj
/-- A cell of a block outside the stretch. -/
theorem Mod.cell {lo hi : Nat} {w w' : World} (h : Mod lo hi w w') {b o : Nat} {v : Value} (hv : w.cell? ⟨b, o, none⟩ = some v) (hd : b < lo ∨ hi ≤ b) : w'.cell? ⟨b, o, none⟩ = some v := by
  rw [World.cell?_of_block (w := w) (h.block b (World.block_lt_of_cell? w _ hv) hd)]; exact hv

/-- Block b is a variable of the call: it holds these cells. -/
def Lvar (w : World) (b : Nat) (cs : Array Value) : Prop := ∃ T, w.heap[b]? = some (.cells cs T (0, 0))
theorem Lvar.new (w : World) (cs : Array Value) (T : TypeId) : Lvar (w.alloc (.cells cs T)) w.heap.size cs := ⟨T, heap_alloc_new _ _⟩
theorem Lvar.lt {w : World} {b : Nat} {cs : Array Value} (h : Lvar w b cs) : b < w.heap.size := by
  obtain ⟨T, h⟩ := h
  exact (Array.getElem?_eq_some_iff.1 h).1
theorem Lvar.below {w w' : World} {b : Nat} {cs : Array Value} (h : Lvar w b cs) (hb : Below w.heap.size w w') : Lvar w' b cs := by
  have hl := h.lt
  obtain ⟨T, h⟩ := h
  exact ⟨T, by rw [hb.block b hl]; exact h⟩
theorem Lvar.alloc {w : World} {b : Nat} {cs : Array Value} (h : Lvar w b cs) (o : Obj) : Lvar (w.alloc o) b cs := h.below ((Below.refl _ _).alloc (Nat.le_refl _) o)
theorem Lvar.keep {w w' : World} {b lo hi : Nat} {cs : Array Value} (h : Lvar w b cs) (hm : Mod lo hi w w') (hd : b < lo ∨ hi ≤ b) : Lvar w' b cs := by
  have hl := h.lt
  obtain ⟨T, h⟩ := h
  exact ⟨T, by rw [hm.block b hl hd]; exact h⟩
theorem Lvar.other {w : World} {b : Nat} {cs : Array Value} (h : Lvar w b cs) {p : Addr} (hp : b ≠ p.block) (v : Value) : Lvar (w.setCell p v) b cs := by
  obtain ⟨T, h⟩ := h
  exact ⟨T, by rw [Below.heap_setCell _ _ _ _ hp]; exact h⟩
theorem Lvar.set {w : World} {b : Nat} {cs : Array Value} (h : Lvar w b cs) (j : Nat) (v : Value) : Lvar (w.setCell ⟨b, j, none⟩ v) b (cs.setIfInBounds j v) := by
  obtain ⟨T, h⟩ := h
  refine ⟨T, ?_⟩
  simp only [World.setCell, Array.getElem?_modify, if_true, h, Option.map_some]
  simp
theorem Lvar.cell {w : World} {b : Nat} {cs : Array Value} (h : Lvar w b cs) (j : Nat) (v : Value) (hj : cs[j]? = some v) : w.cell? ⟨b, j, none⟩ = some v := by
  obtain ⟨T, h⟩ := h
  rw [cell_of_row w b j cs T (0, 0) h, hj]
theorem Lvar.frozen {w : World} {b : Nat} {cs : Array Value} (h : Lvar w b cs) (j : Nat) : w.frozen? ⟨b, j, none⟩ = false := by
  obtain ⟨T, h⟩ := h
  unfold World.frozen?
  rw [h]
  simp

/-- A variable's block as a row. -/
theorem Lvar.row {w : World} {b : Nat} {cs : Array Value} (h : Lvar w b cs) : Row b (b + 1) w (some ⟨b, 0, none⟩) cs.toList ∧ Free w (some ⟨b, 0, none⟩) cs.size :=
  ⟨fun _ => ⟨b, 0, rfl, ⟨Nat.le_refl _, Nat.lt_succ_self _, h.lt⟩, fun j v hj => by rw [Nat.zero_add]; exact h.cell j v (by simpa using hj)⟩,
   fun _ b' o e j _ => by
    injection e with e; injection e with e1 e2; subst e1; subst e2
    rw [Nat.zero_add]
    exact h.frozen j⟩
end RowK
end Go.Proofs.YtaepfdgfjcdidaaDoor
