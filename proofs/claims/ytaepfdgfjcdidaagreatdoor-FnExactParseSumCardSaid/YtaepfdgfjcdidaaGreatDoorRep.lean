import Derived.Test.YtaepfdgfjcdidaaGreatDoorRowss
import Derived.Test.YtaepfdgfjcdidaaGreatDoorIntRow
/-
  Data in memory: how a datum's cells and the blocks of its slices lie ('Rep'), for numbers, strings, structs and slices of any of them.
-/
namespace Go.Proofs.YtaepfdgfjcdidaaGreatDoor
open Go.RowKit
namespace Mem
open RowK

/-- Behind the call only the blocks in this list, and what is new, may have turned. -/
structure ModF (fp : List Nat) (w w' : World) : Prop where
  os : w'.os = w.os
  tape : w'.tape = w.tape
  output : w'.output = w.output
  size : w.heap.size ≤ w'.heap.size
  block : ∀ i, i < w.heap.size → i ∉ fp → w'.heap[i]? = w.heap[i]?
theorem ModF.refl (fp : List Nat) (w : World) : ModF fp w w := ⟨rfl, rfl, rfl, Nat.le_refl _, fun _ _ _ => rfl⟩
theorem ModF.trans {fp : List Nat} {a b c : World} (h : ModF fp a b) (k : ModF fp b c) : ModF fp a c :=
  ⟨k.os.trans h.os, k.tape.trans h.tape, k.output.trans h.output, Nat.le_trans h.size k.size, fun i hi hn => (k.block i (Nat.lt_of_lt_of_le hi h.size) hn).trans (h.block i hi hn)⟩
theorem ModF.of_below {fp : List Nat} {w w' : World} (h : Below w.heap.size w w') : ModF fp w w' := ⟨h.os, h.tape, h.output, h.size, fun i hi _ => h.block i hi⟩
theorem ModF.wider {fp fp' : List Nat} {w w' : World} (h : ModF fp w w') (hs : ∀ b ∈ fp, b ∈ fp') : ModF fp' w w' := ⟨h.os, h.tape, h.output, h.size, fun i hi hn => h.block i hi (fun e => hn (hs i e))⟩
theorem ModF.of_mod {b : Nat} {w w' : World} (h : Mod b (b + 1) w w') : ModF [b] w w' := ⟨h.os, h.tape, h.output, h.size, fun i hi hn => h.block i hi (by simp at hn; omega)⟩
theorem ModF.of_mod0 {b : Nat} {w w' : World} (h : Mod b b w w') : ModF [] w w' := ⟨h.os, h.tape, h.output, h.size, fun i hi _ => h.block i hi (by omega)⟩
theorem ModF.set {fp : List Nat} (w : World) {p : Addr} (h : p.block ∈ fp) (v : Value) : ModF fp w (w.setCell p v) :=
  ⟨rfl, rfl, rfl, by simp [World.setCell], fun i _ hn => Below.heap_setCell _ _ _ _ (fun e => hn (e ▸ h))⟩
theorem ModF.mod {fp : List Nat} {w w' : World} {lo hi : Nat} (h : ModF fp w w') (hb : ∀ b ∈ fp, lo ≤ b ∧ b < hi) : Mod lo hi w w' := ⟨h.os, h.tape, h.output, h.size, fun i hi hn => h.block i hi (fun e => by have := hb i e; omega)⟩
/-- What was written is younger than B: below B nothing has turned. -/
theorem below_modF {B : Nat} {fp : List Nat} {w w1 w2 : World} (h : Below B w w1) (k : ModF fp w1 w2) (h1 : ∀ b ∈ fp, B ≤ b) (h2 : B ≤ w1.heap.size) : Below B w w2 :=
  h.trans ⟨k.os, k.tape, k.output, k.size, fun i hi => k.block i (by omega) (fun e => by have := h1 i e; omega)⟩

/-- How a datum of a kind lies in memory: q tells whether its places may be written; fp lists the blocks of its slices, cs its own cells. -/
structure Rep (α : Type) where
  n : Nat
  rep : Bool → World → List Nat → List Value → α → Prop
  len : ∀ {q w fp cs x}, rep q w fp cs x → cs.length = n
  lt : ∀ {q w fp cs x}, rep q w fp cs x → ∀ b ∈ fp, b < w.heap.size
  same : ∀ {q w w' fp cs x}, rep q w fp cs x → w.heap.size ≤ w'.heap.size → (∀ b ∈ fp, w'.heap[b]? = w.heap[b]?) → rep q w' fp cs x
  loose : ∀ {q w fp cs x}, rep q w fp cs x → rep false w fp cs x

variable {α β : Type}
theorem Rep.below {r : Rep α} {q : Bool} {w w' : World} {fp : List Nat} {cs : List Value} {x : α} (h : r.rep q w fp cs x) (hb : Below w.heap.size w w') : r.rep q w' fp cs x :=
  r.same h hb.size (fun b hb' => hb.block b (r.lt h b hb'))
theorem Rep.keepF {r : Rep α} {q : Bool} {w w' : World} {fp gp : List Nat} {cs : List Value} {x : α} (h : r.rep q w fp cs x) (m : ModF gp w w') (hd : ∀ b ∈ fp, b ∉ gp) : r.rep q w' fp cs x :=
  r.same h m.size (fun b hb' => m.block b (r.lt h b hb') (hd b hb'))
theorem Rep.keep {r : Rep α} {q : Bool} {w w' : World} {fp : List Nat} {lo hi : Nat} {cs : List Value} {x : α} (h : r.rep q w fp cs x) (m : Mod lo hi w w') (hd : ∀ b ∈ fp, b < lo ∨ hi ≤ b) : r.rep q w' fp cs x :=
  r.same h m.size (fun b hb' => m.block b (r.lt h b hb') (hd b hb'))

def Rep.int : Rep Int where
  n := 1
  rep _ _ fp cs z := fp = [] ∧ cs = [.int .i64 z]
  len h := by rw [h.2]; rfl
  lt h b hb := by rw [h.1] at hb; cases hb
  same h _ _ := h
  loose h := h
def Rep.str : Rep ByteArray where
  n := 1
  rep _ _ fp cs s := fp = [] ∧ cs = [.string s]
  len h := by rw [h.2]; rfl
  lt h b hb := by rw [h.1] at hb; cases hb
  same h _ _ := h
  loose h := h
def Rep.bool : Rep Bool where
  n := 1
  rep _ _ fp cs s := fp = [] ∧ cs = [.bool s]
  len h := by rw [h.2]; rfl
  lt h b hb := by rw [h.1] at hb; cases hb
  same h _ _ := h
  loose h := h
/-- Two fields. -/
def Rep.prod (r : Rep α) (s : Rep β) : Rep (α × β) where
  n := r.n + s.n
  rep q w fp cs p := ∃ f1 f2 c1 c2, fp = f1 ++ f2 ∧ cs = c1 ++ c2 ∧ r.rep q w f1 c1 p.1 ∧ s.rep q w f2 c2 p.2
  len h := by
    obtain ⟨f1, f2, c1, c2, rfl, rfl, h1, h2⟩ := h
    rw [List.length_append, r.len h1, s.len h2]
  lt h b hb := by
    obtain ⟨f1, f2, c1, c2, rfl, rfl, h1, h2⟩ := h
    rcases List.mem_append.1 hb with hb | hb
    · exact r.lt h1 b hb
    · exact s.lt h2 b hb
  same h hs hb := by
    obtain ⟨f1, f2, c1, c2, rfl, rfl, h1, h2⟩ := h
    exact ⟨f1, f2, c1, c2, rfl, rfl, r.same h1 hs (fun b h => hb b (List.mem_append_left _ h)), s.same h2 hs (fun b h => hb b (List.mem_append_right _ h))⟩
  loose h := by
    obtain ⟨f1, f2, c1, c2, rfl, rfl, h1, h2⟩ := h
    exact ⟨f1, f2, c1, c2, rfl, rfl, r.loose h1, s.loose h2⟩
/-- An element of a slice: its blocks, its cells, what it is. -/
abbrev El (α : Type) := List Nat × List Value × α
def fps (es : List (El α)) : List Nat := es.flatMap (·.1)
def cells (es : List (El α)) : List Value := es.flatMap (·.2.1)
def vals (es : List (El α)) : List α := es.map (·.2.2)
theorem vals_len (es : List (El α)) : (vals es).length = es.length := List.length_map ..
theorem mem_fps {es : List (El α)} {e : El α} (h : e ∈ es) {b : Nat} (hb : b ∈ e.1) : b ∈ fps es := List.mem_flatMap.2 ⟨e, h, hb⟩
theorem cells_len {n : Nat} : ∀ {es : List (El α)}, (∀ e ∈ es, e.2.1.length = n) → (cells es).length = es.length * n
  | [], _ => by simp [cells]
  | e :: es, h => by
    have ih := cells_len (n := n) (es := es) (fun e he => h e (List.mem_cons_of_mem _ he))
    unfold cells at ih ⊢
    rw [List.flatMap_cons, List.length_append, ih, h e List.mem_cons_self, List.length_cons, Nat.succ_mul, Nat.add_comm]
theorem cells_at {n : Nat} : ∀ {es : List (El α)}, (∀ e ∈ es, e.2.1.length = n) → ∀ {k i : Nat}, (hk : k < es.length) → i < n → (cells es)[k * n + i]? = es[k].2.1[i]?
  | e :: es, h, 0, i, _, hi => by
    have he := h e List.mem_cons_self
    unfold cells
    rw [List.flatMap_cons, Nat.zero_mul, Nat.zero_add, List.getElem?_append_left (by omega)]
    rfl
  | e :: es, h, k + 1, i, hk, hi => by
    have he := h e List.mem_cons_self
    have ih := cells_at (n := n) (es := es) (fun e he => h e (List.mem_cons_of_mem _ he)) (k := k) (i := i) (by simpa using hk) hi
    unfold cells at ih ⊢
    rw [List.flatMap_cons, List.getElem?_append_right (by rw [he, Nat.succ_mul]; omega), he, Nat.succ_mul, show k * n + n + i - n = k * n + i by omega, ih]
    rfl
theorem cells_append (a b : List (El α)) : cells (a ++ b) = cells a ++ cells b := by simp [cells]
theorem fps_append (a b : List (El α)) : fps (a ++ b) = fps a ++ fps b := by simp [fps]
theorem vals_append (a b : List (El α)) : vals (a ++ b) = vals a ++ vals b := by simp [vals]
/-- A slice. -/
def Rep.slice (r : Rep α) : Rep (List α) where
  n := 1
  rep q w fp cs xs := ∃ A c, cs = [.slice A xs.length c] ∧ xs.length ≤ c ∧ ((xs = [] ∧ fp = []) ∨ ∃ b o es, A = some ⟨b, o, none⟩ ∧ xs = vals es ∧ es ≠ [] ∧ fp = b :: fps es ∧ b < w.heap.size ∧ (∀ e ∈ es, r.rep q w e.1 e.2.1 e.2.2) ∧ Row b (b + 1) w A (cells es) ∧ (q = true → Free w A (cells es).length))
  len h := by
    obtain ⟨A, c, rfl, _⟩ := h
    rfl
  lt h b' hb := by
    obtain ⟨A, c, rfl, _, ⟨_, rfl⟩ | ⟨b, o, es, rfl, rfl, hne, rfl, hl, he, hr, hf⟩⟩ := h
    · cases hb
    · rcases List.mem_cons.1 hb with rfl | hb
      · exact hl
      · obtain ⟨e, h1, h2⟩ := List.mem_flatMap.1 hb
        exact r.lt (he e h1) _ h2
  same {q w w' fp cs x} h hs hb := by
    obtain ⟨A, c, rfl, hc, ⟨rfl, rfl⟩ | ⟨b, o, es, rfl, rfl, hne, rfl, hl, he, hr, hf⟩⟩ := h
    · exact ⟨A, c, rfl, hc, Or.inl ⟨rfl, rfl⟩⟩
    · have hbb := hb b List.mem_cons_self
      refine ⟨_, c, rfl, hc, Or.inr ⟨b, o, es, rfl, rfl, hne, rfl, by omega, fun e h => r.same (he e h) hs (fun b' hb' => hb b' (List.mem_cons_of_mem _ (mem_fps h hb'))), fun hn => ?_, fun hq hn b' o' e j hj => ?_⟩⟩
      · obtain ⟨b', o', e, h1, h2⟩ := hr hn
        injection e with e; injection e with e1 e2; subst e1; subst e2
        exact ⟨b, o, rfl, ⟨h1.1, h1.2.1, by omega⟩, fun j v hj => by rw [World.cell?_of_block (w := w) hbb]; exact h2 j v hj⟩
      · injection e with e; injection e with e1 e2; subst e1; subst e2
        rw [World.frozen?_of_block (w := w) hbb]
        exact hf hq hn b o rfl j hj
  loose h := by
    obtain ⟨A, c, rfl, hc, ⟨rfl, rfl⟩ | ⟨b, o, es, rfl, rfl, hne, rfl, hl, he, hr, hf⟩⟩ := h
    · exact ⟨A, c, rfl, hc, Or.inl ⟨rfl, rfl⟩⟩
    · exact ⟨_, c, rfl, hc, Or.inr ⟨b, o, es, rfl, rfl, hne, rfl, hl, fun e h => r.loose (he e h), hr, fun h => by cases h⟩⟩

/-- A datum in new memory, which nothing else shares. -/
def New (r : Rep α) (w : World) (x : α) (w' : World) (cs : List Value) : Prop := ∃ fp, r.rep true w' fp cs x ∧ fp.Nodup ∧ ∀ b ∈ fp, w.heap.size ≤ b
theorem New.below {r : Rep α} {w w1 w2 : World} {x : α} {cs : List Value} (h : New r w x w1 cs) (hb : Below w1.heap.size w1 w2) : New r w x w2 cs := by
  obtain ⟨fp, h1, h2, h3⟩ := h
  exact ⟨fp, Rep.below h1 hb, h2, h3⟩
end Mem
end Go.Proofs.YtaepfdgfjcdidaaGreatDoor
