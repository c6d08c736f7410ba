import Derived.WalkKit
import Derived.WalkSpells
import Derived.WalkLawsBesides
import Derived.Test.YtiilopfhlmeaoaaGreatDoorProg
import Derived.Lib.Hide
import Derived.Lib.Split
import Derived.Lib.CountLaws
import Derived.Deep.QuietTactic
import Derived.BigQuiet
import Derived.OwnWalk
import Derived.Deep.RegionLaw
import Derived.Deep.RegionLawGrows
import Derived.Test.YtiilopfhlmeaoaaGreatDoorStrRow
/-
  Rows of cells in memory, with the stretch of blocks in which they lie ('Row'), and what a call may have written ('Mod').
-/
namespace Go.Proofs.YtiilopfhlmeaoaaGreatDoor
open Go.RowKit
namespace RowK

/-- Behind the call only the blocks from lo to hi, and what is new, may have turned. -/
structure Mod (lo hi : Nat) (w w' : World) : Prop where
  os : w'.os = w.os
  tape : w'.tape = w.tape
  output : w'.output = w.output
  size : w.heap.size ≤ w'.heap.size
  block : ∀ i, i < w.heap.size → (i < lo ∨ hi ≤ i) → w'.heap[i]? = w.heap[i]?

theorem Mod.refl (lo hi : Nat) (w : World) : Mod lo hi w w := ⟨rfl, rfl, rfl, Nat.le_refl _, fun _ _ _ => rfl⟩
theorem Mod.trans {lo hi : Nat} {a b c : World} (h : Mod lo hi a b) (k : Mod lo hi b c) : Mod lo hi a c :=
  ⟨k.os.trans h.os, k.tape.trans h.tape, k.output.trans h.output, Nat.le_trans h.size k.size, fun i hi hn => (k.block i (Nat.lt_of_lt_of_le hi h.size) hn).trans (h.block i hi hn)⟩
theorem Mod.of_below {lo hi : Nat} {w w' : World} (h : Below w.heap.size w w') : Mod lo hi w w' := ⟨h.os, h.tape, h.output, h.size, fun i hi _ => h.block i hi⟩
theorem Mod.set {lo hi : Nat} (w : World) {p : Addr} (h1 : lo ≤ p.block) (h2 : p.block < hi) (v : Value) : Mod lo hi w (w.setCell p v) :=
  ⟨rfl, rfl, rfl, by simp [World.setCell], fun i _ hn => Below.heap_setCell _ _ _ _ (by omega)⟩
theorem Mod.alloc (lo hi : Nat) (w : World) (o : Obj) : Mod lo hi w (w.alloc o) := Mod.of_below ((Below.refl _ _).alloc (Nat.le_refl _) o)
theorem Mod.wider {lo hi lo' hi' : Nat} {w w' : World} (h : Mod lo hi w w') (h1 : lo' ≤ lo) (h2 : hi ≤ hi') : Mod lo' hi' w w' :=
  ⟨h.os, h.tape, h.output, h.size, fun i hi hn => h.block i hi (by omega)⟩
theorem Mod.drewN {lo hi : Nat} {w w' : World} (h : Mod lo hi w w') (n : Nat) : Mod lo hi w (w'.drewN n) := h.trans ⟨rfl, rfl, rfl, Nat.le_refl _, fun _ _ _ => rfl⟩
theorem Mod.drew {lo hi : Nat} {w w' : World} (h : Mod lo hi w w') : Mod lo hi w w'.drew := h.trans ⟨rfl, rfl, rfl, Nat.le_refl _, fun _ _ _ => rfl⟩
theorem below_drewN {b : Nat} {w w' : World} (h : Below b w w') (n : Nat) : Below b w (w'.drewN n) := h.trans ⟨rfl, rfl, rfl, Nat.le_refl _, fun _ _ => rfl⟩
/-- What was written is younger than B: below B nothing has turned. -/
theorem below_mod {B lo hi : Nat} {w w1 w2 : World} (h : Below B w w1) (k : Mod lo hi w1 w2) (h1 : B ≤ lo) (h2 : B ≤ w1.heap.size) : Below B w w2 :=
  h.trans ⟨k.os, k.tape, k.output, k.size, fun i hi => k.block i (by omega) (by omega)⟩
/-- The slice at A holds the cells vs, in a block from lo to hi. -/
def Row (lo hi : Nat) (w : World) (A : Option Addr) (vs : List Value) : Prop :=
  vs ≠ [] → ∃ b o, A = some ⟨b, o, none⟩ ∧ (lo ≤ b ∧ b < hi ∧ hi ≤ w.heap.size) ∧ ∀ j v, vs[j]? = some v → w.cell? ⟨b, o + j, none⟩ = some v
/-- Every place of the slice may be written. -/
def Free (w : World) (A : Option Addr) (n : Nat) : Prop := 0 < n → ∀ b o, A = some ⟨b, o, none⟩ → ∀ j, j < n → w.frozen? ⟨b, o + j, none⟩ = false

theorem Row.keep {lo hi lo' hi' : Nat} {w w' : World} {A : Option Addr} {vs : List Value} (h : Row lo hi w A vs) (hm : Mod lo' hi' w w') (hd : hi ≤ lo' ∨ hi' ≤ lo) : Row lo hi w' A vs := fun hn => by
  obtain ⟨b, o, rfl, ⟨h1, h2, h3⟩, hc⟩ := h hn
  exact ⟨b, o, rfl, ⟨h1, h2, Nat.le_trans h3 hm.size⟩, fun j v hj => by rw [World.cell?_of_block (w := w) (hm.block b (by omega) (by omega))]; exact hc j v hj⟩
theorem Row.below {lo hi : Nat} {w w' : World} {A : Option Addr} {vs : List Value} (h : Row lo hi w A vs) (hb : Below w.heap.size w w') : Row lo hi w' A vs := h.keep (Mod.of_below (lo := hi) (hi := hi) hb) (Or.inl (Nat.le_refl _))
theorem Row.wider {lo hi lo' hi' : Nat} {w : World} {A : Option Addr} {vs : List Value} (h : Row lo hi w A vs) (h1 : lo' ≤ lo) (h2 : hi ≤ hi') (h3 : hi' ≤ w.heap.size) : Row lo' hi' w A vs := fun hn => by
  obtain ⟨b, o, rfl, h4, hc⟩ := h hn
  exact ⟨b, o, rfl, ⟨by omega, by omega, h3⟩, hc⟩
theorem Row.at_ {lo hi : Nat} {w : World} {A : Option Addr} {vs : List Value} (h : Row lo hi w A vs) {k : Nat} (hk : k < vs.length) : ∃ b o, A = some ⟨b, o, none⟩ ∧ (lo ≤ b ∧ b < hi ∧ hi ≤ w.heap.size) ∧ w.cell? ⟨b, o + k, none⟩ = some vs[k] := by
  obtain ⟨b, o, rfl, hlt, hc⟩ := h (fun e => by rw [e] at hk; simp at hk)
  exact ⟨b, o, rfl, hlt, hc k _ (List.getElem?_eq_getElem hk)⟩
theorem row_nil (lo hi : Nat) (w : World) (A : Option Addr) : Row lo hi w A [] := fun h => absurd rfl h

theorem Free.keep {lo hi lo' hi' : Nat} {w w' : World} {A : Option Addr} {vs : List Value} {n : Nat} (h : Free w A n) (hr : Row lo hi w A vs) (hlen : n ≤ vs.length) (hm : Mod lo' hi' w w') (hd : hi ≤ lo' ∨ hi' ≤ lo) : Free w' A n := fun hn b o e j hj => by
  obtain ⟨b', o', e', ⟨h1, h2, h3⟩, _⟩ := hr (fun e => by rw [e] at hlen; simp at hlen; omega)
  rw [e'] at e
  injection e with e; injection e with e1 e2; subst e1; subst e2
  have hf := h hn _ _ e' j hj
  rw [World.frozen?_of_block (w := w) (hm.block b' (by omega) (by omega))]
  exact hf
theorem Free.below {lo hi : Nat} {w w' : World} {A : Option Addr} {vs : List Value} {n : Nat} (h : Free w A n) (hr : Row lo hi w A vs) (hlen : n ≤ vs.length) (hb : Below w.heap.size w w') : Free w' A n := h.keep hr hlen (Mod.of_below (lo := hi) (hi := hi) hb) (Or.inl (Nat.le_refl _))
theorem free_zero (w : World) (A : Option Addr) : Free w A 0 := fun h => absurd h (Nat.lt_irrefl 0)

/-- A row that the call owns. -/
theorem of_own {w : World} {base sz n : Nat} {e : TypeId} {v : Value} {vs : List Value} (h : w.ownsRow base e sz v n vs) :
    ∃ A cap, v = .slice A n cap ∧ Row base w.heap.size w A vs ∧ Free w A vs.length ∧ n ≤ cap ∧ (∀ a, A = some a → base ≤ a.block) := by
  obtain ⟨hlen, h⟩ := h
  rcases h with ⟨rfl, h0⟩ | ⟨g, cap, cur, rfl, hg, hh, hnc, _, hcs, hcur⟩
  · subst h0
    have h0' : vs = [] := List.eq_nil_of_length_eq_zero (by simpa using hlen)
    subst h0'
    exact ⟨none, 0, rfl, row_nil _ _ _ _, free_zero _ _, Nat.le_refl _, (fun a e => by cases e)⟩
  · have hgl : g < w.heap.size := (Array.getElem?_eq_some_iff.1 hh).1
    refine ⟨_, _, rfl, fun _ => ⟨g, 0, rfl, ⟨hg, hgl, Nat.le_refl _⟩, fun j x hj => ?_⟩, fun _ b o e j hj => ?_, hnc, fun a e => ?_⟩
    · rw [Nat.zero_add, cell_of_row w g j cur e (0, 0) hh]
      rw [← hcur, List.getElem?_take] at hj
      split at hj
      · simpa using hj
      · cases hj
    · injection e with e; injection e with e1 e2; subst e1; subst e2
      unfold World.frozen?
      rw [hh]
      simp
    · injection e with e; subst e; exact hg

/-- The rest of a row. -/
theorem Row.drop {lo hi : Nat} {w : World} {b o : Nat} {vs : List Value} (h : Row lo hi w (some ⟨b, o, none⟩) vs) (i : Nat) : Row lo hi w (some ⟨b, o + i, none⟩) (vs.drop i) := fun hn => by
  obtain ⟨b', o', e, h1, hc⟩ := h (fun e => by rw [e] at hn; simp at hn)
  injection e with e; injection e with e1 e2; subst e1; subst e2
  refine ⟨b, o + i, rfl, h1, fun j v hj => ?_⟩
  rw [List.getElem?_drop] at hj
  have := hc (i + j) v hj
  rwa [show o + i + j = o + (i + j) by omega]

/-- A store into a place of the row. -/
theorem Row.store {lo hi : Nat} {w : World} {b o : Nat} {vs : List Value} (h : Row lo hi w (some ⟨b, o, none⟩) vs) {k : Nat} (hk : k < vs.length) (v : Value) : Row lo hi (w.setCell ⟨b, o + k, none⟩ v) (some ⟨b, o, none⟩) (vs.set k v) := fun _ => by
  obtain ⟨b', o', e, h1, hc⟩ := h (fun e => by rw [e] at hk; simp at hk)
  injection e with e; injection e with e1 e2; subst e1; subst e2
  refine ⟨b, o, rfl, by simpa using h1, fun j x hj => ?_⟩
  by_cases e : j = k
  · subst e
    rw [List.getElem?_set_self hk] at hj
    injection hj with hj; subst hj
    exact World.cell?_setCell_same _ _ _ (hc j _ (List.getElem?_eq_getElem hk))
  · rw [List.getElem?_set_ne (by omega)] at hj
    rw [World.cell?_setCell_other _ _ _ _ (by intro h; simp only [Addr.mk.injEq] at h; omega)]
    exact hc j x hj
theorem Free.set {w : World} {A : Option Addr} {n : Nat} (h : Free w A n) (p : Addr) (v : Value) : Free (w.setCell p v) A n := fun hn b o e j hj => by
  rw [World.frozen?_setCell]
  exact h hn b o e j hj
/-- A cell of a block outside the stretch. -/
theorem Mod.cell {lo hi : Nat} {w w' : World} (h : Mod lo hi w w') {b o : Nat} {v : Value} (hv : w.cell? ⟨b, o, none⟩ = some v) (hd : b < lo ∨ hi ≤ b) : w'.cell? ⟨b, o, none⟩ = some v := by
  rw [World.cell?_of_block (w := w) (h.block b (World.block_lt_of_cell? w _ hv) hd)]; exact hv

/-- Block b is a variable of the call: it holds these cells. -/
def Lvar (w : World) (b : Nat) (cs : Array Value) : Prop := ∃ T, w.heap[b]? = some (.cells cs T (0, 0))
theorem Lvar.new (w : World) (cs : Array Value) (T : TypeId) : Lvar (w.alloc (.cells cs T)) w.heap.size cs := ⟨T, heap_alloc_new _ _⟩
theorem Lvar.lt {w : World} {b : Nat} {cs : Array Value} (h : Lvar w b cs) : b < w.heap.size := by
  obtain ⟨T, h⟩ := h
  exact (Array.getElem?_eq_some_iff.1 h).1
theorem Lvar.below {w w' : World} {b : Nat} {cs : Array Value} (h : Lvar w b cs) (hb : Below w.heap.size w w') : Lvar w' b cs := by
  have hl := h.lt
  obtain ⟨T, h⟩ := h
  exact ⟨T, by rw [hb.block b hl]; exact h⟩
theorem Lvar.alloc {w : World} {b : Nat} {cs : Array Value} (h : Lvar w b cs) (o : Obj) : Lvar (w.alloc o) b cs := h.below ((Below.refl _ _).alloc (Nat.le_refl _) o)
theorem Lvar.keep {w w' : World} {b lo hi : Nat} {cs : Array Value} (h : Lvar w b cs) (hm : Mod lo hi w w') (hd : b < lo ∨ hi ≤ b) : Lvar w' b cs := by
  have hl := h.lt
  obtain ⟨T, h⟩ := h
  exact ⟨T, by rw [hm.block b hl hd]; exact h⟩
theorem Lvar.other {w : World} {b : Nat} {cs : Array Value} (h : Lvar w b cs) {p : Addr} (hp : b ≠ p.block) (v : Value) : Lvar (w.setCell p v) b cs := by
  obtain ⟨T, h⟩ := h
  exact ⟨T, by rw [Below.heap_setCell _ _ _ _ hp]; exact h⟩
theorem Lvar.set {w : World} {b : Nat} {cs : Array Value} (h : Lvar w b cs) (j : Nat) (v : Value) : Lvar (w.setCell ⟨b, j, none⟩ v) b (cs.setIfInBounds j v) := by
  obtain ⟨T, h⟩ := h
  refine ⟨T, ?_⟩
  simp only [World.setCell, Array.getElem?_modify, if_true, h, Option.map_some]
  simp
theorem Lvar.cell {w : World} {b : Nat} {cs : Array Value} (h : Lvar w b cs) (j : Nat) (v : Value) (hj : cs[j]? = some v) : w.cell? ⟨b, j, none⟩ = some v := by
  obtain ⟨T, h⟩ := h
  rw [cell_of_row w b j cs T (0, 0) h, hj]
theorem Lvar.frozen {w : World} {b : Nat} {cs : Array Value} (h : Lvar w b cs) (j : Nat) : w.frozen? ⟨b, j, none⟩ = false := by
  obtain ⟨T, h⟩ := h
  unfold World.frozen?
  rw [h]
  simp

end RowK
end Go.Proofs.YtiilopfhlmeaoaaGreatDoor

/-
  The laws' helpers on slices of integers: copy, size, comparison, marks.
-/
namespace Go.Proofs.YtiilopfhlmeaoaaGreatDoor
open Go.RowKit
namespace IntK
open RowK

/-- The cells of a slice of integers. -/
def iv (zs : List Int) : List Value := zs.map (Value.int .i64)
theorem iv_len (zs : List Int) : (iv zs).length = zs.length := by simp [iv]
theorem iv_get {zs : List Int} {k : Nat} (h : k < zs.length) (h' : k < (iv zs).length) : (iv zs)[k] = .int .i64 zs[k] := by simp [iv]
theorem at_ {lo hi : Nat} {w : World} {A : Option Addr} {zs : List Int} (h : Row lo hi w A (iv zs)) {k : Nat} (hk : k < zs.length) : ∃ b o, A = some ⟨b, o, none⟩ ∧ (lo ≤ b ∧ b < hi ∧ hi ≤ w.heap.size) ∧ w.cell? ⟨b, o + k, none⟩ = some (.int .i64 zs[k]) := by
  obtain ⟨b, o, e, h1, h2⟩ := h.at_ (k := k) (by rw [iv_len]; exact hk)
  exact ⟨b, o, e, h1, by rw [h2, iv_get hk]⟩

theorem at_below {lo hi : Nat} {w w' : World} {A : Option Addr} {zs : List Int} (h : Row lo hi w A (iv zs)) (hb : Below w.heap.size w w') {k : Nat} (hk : k < zs.length) : ∃ b o, A = some ⟨b, o, none⟩ ∧ (lo ≤ b ∧ b < hi ∧ hi ≤ w.heap.size) ∧ w'.cell? ⟨b, o + k, none⟩ = some (.int .i64 zs[k]) := by
  obtain ⟨b, o, e, h1, h2⟩ := at_ h hk
  exact ⟨b, o, e, h1, by rw [hb.cell (p := ⟨b, o + k, none⟩) (by show b < _; omega)]; exact h2⟩

/-- A slice of integers in the stretch from lo to hi that may be written. -/
def Own (lo hi : Nat) (w : World) (A : Option Addr) (zs : List Int) : Prop := Row lo hi w A (iv zs) ∧ Free w A zs.length
theorem Own.keep {lo hi lo' hi' : Nat} {w w' : World} {A : Option Addr} {zs : List Int} (h : Own lo hi w A zs) (hm : Mod lo' hi' w w') (hd : hi ≤ lo' ∨ hi' ≤ lo) : Own lo hi w' A zs := ⟨h.1.keep hm hd, h.2.keep h.1 (by rw [iv_len]; exact Nat.le_refl _) hm hd⟩
theorem Own.below {lo hi : Nat} {w w' : World} {A : Option Addr} {zs : List Int} (h : Own lo hi w A zs) (hb : Below w.heap.size w w') : Own lo hi w' A zs := ⟨h.1.below hb, h.2.below h.1 (by rw [iv_len]; exact Nat.le_refl _) hb⟩

theorem intInfo : (Tryz.prog.info? 3).map (fun i => (i.zero, i.size, i.bytes)) = some (some (.int .i64 0), 1, 8) := by kernel_rfl

/-- make([]int, n): the value and the world. -/
theorem run_mk (n : Nat) (hn : n ≤ 1000000000000) (u : World) : (Instr.makeSlice 67 (.int .i64 (n : Int)) (.int .i64 (n : Int))).run Tryz.prog u =
    .ok (.slice (some ⟨u.heap.size, 0, none⟩) n n) (u.alloc (.cells (madeCells #[.int .i64 0] n) 3)) := by
  obtain ⟨i0, hi, hz0, hz1, hz2⟩ := info_parts intInfo
  have h := run_make (P := Tryz.prog) u 67 3 i0 (.int .i64 0) Tryz.underlying67 hi hz0 .i64 .i64 (n : Int) (n : Int) (by omega) (Int.le_refl _) (by rw [hz2]; omega) (by omega)
  simpa [hz1, Value.cells] using h
theorem made_own (n : Nat) (hn : n ≤ 1000000000000) (w : World) : (w.alloc (.cells (madeCells #[.int .i64 0] n) 3)).ownsRow w.heap.size 3 1 (.slice (some ⟨w.heap.size, 0, none⟩) n n) n (List.replicate n (.int .i64 0)) := by
  refine ⟨by simp, Or.inr ⟨w.heap.size, n, _, rfl, Nat.le_refl _, heap_alloc_new _ _, Nat.le_refl _, by unfold maxLen; omega, by rw [size_madeCells, Nat.mul_one], ?_⟩⟩
  rw [toList_madeCells_one]
  simp

end IntK
end Go.Proofs.YtiilopfhlmeaoaaGreatDoor

/-
  Data in memory: how a datum's cells and the blocks of its slices lie ('Rep'), for numbers, strings, structs and slices of any of them.
-/
namespace Go.Proofs.YtiilopfhlmeaoaaGreatDoor
open Go.RowKit
namespace Mem
open RowK

/-- Behind the call only the blocks in this list, and what is new, may have turned. -/
structure ModF (fp : List Nat) (w w' : World) : Prop where
  os : w'.os = w.os
  tape : w'.tape = w.tape
  output : w'.output = w.output
  size : w.heap.size ≤ w'.heap.size
  block : ∀ i, i < w.heap.size → i ∉ fp → w'.heap[i]? = w.heap[i]?
theorem ModF.refl (fp : List Nat) (w : World) : ModF fp w w := ⟨rfl, rfl, rfl, Nat.le_refl _, fun _ _ _ => rfl⟩
theorem ModF.trans {fp : List Nat} {a b c : World} (h : ModF fp a b) (k : ModF fp b c) : ModF fp a c :=
  ⟨k.os.trans h.os, k.tape.trans h.tape, k.output.trans h.output, Nat.le_trans h.size k.size, fun i hi hn => (k.block i (Nat.lt_of_lt_of_le hi h.size) hn).trans (h.block i hi hn)⟩
theorem ModF.of_below {fp : List Nat} {w w' : World} (h : Below w.heap.size w w') : ModF fp w w' := ⟨h.os, h.tape, h.output, h.size, fun i hi _ => h.block i hi⟩
theorem ModF.wider {fp fp' : List Nat} {w w' : World} (h : ModF fp w w') (hs : ∀ b ∈ fp, b ∈ fp') : ModF fp' w w' := ⟨h.os, h.tape, h.output, h.size, fun i hi hn => h.block i hi (fun e => hn (hs i e))⟩
theorem ModF.set {fp : List Nat} (w : World) {p : Addr} (h : p.block ∈ fp) (v : Value) : ModF fp w (w.setCell p v) :=
  ⟨rfl, rfl, rfl, by simp [World.setCell], fun i _ hn => Below.heap_setCell _ _ _ _ (fun e => hn (e ▸ h))⟩
theorem ModF.mod {fp : List Nat} {w w' : World} {lo hi : Nat} (h : ModF fp w w') (hb : ∀ b ∈ fp, lo ≤ b ∧ b < hi) : Mod lo hi w w' := ⟨h.os, h.tape, h.output, h.size, fun i hi hn => h.block i hi (fun e => by have := hb i e; omega)⟩
/-- How a datum of a kind lies in memory: q tells whether its places may be written; fp lists the blocks of its slices, cs its own cells. -/
structure Rep (α : Type) where
  n : Nat
  rep : Bool → World → List Nat → List Value → α → Prop
  len : ∀ {q w fp cs x}, rep q w fp cs x → cs.length = n
  lt : ∀ {q w fp cs x}, rep q w fp cs x → ∀ b ∈ fp, b < w.heap.size
  same : ∀ {q w w' fp cs x}, rep q w fp cs x → w.heap.size ≤ w'.heap.size → (∀ b ∈ fp, w'.heap[b]? = w.heap[b]?) → rep q w' fp cs x
  loose : ∀ {q w fp cs x}, rep q w fp cs x → rep false w fp cs x

variable {α β : Type}
theorem Rep.below {r : Rep α} {q : Bool} {w w' : World} {fp : List Nat} {cs : List Value} {x : α} (h : r.rep q w fp cs x) (hb : Below w.heap.size w w') : r.rep q w' fp cs x :=
  r.same h hb.size (fun b hb' => hb.block b (r.lt h b hb'))
theorem Rep.keepF {r : Rep α} {q : Bool} {w w' : World} {fp gp : List Nat} {cs : List Value} {x : α} (h : r.rep q w fp cs x) (m : ModF gp w w') (hd : ∀ b ∈ fp, b ∉ gp) : r.rep q w' fp cs x :=
  r.same h m.size (fun b hb' => m.block b (r.lt h b hb') (hd b hb'))
theorem Rep.keep {r : Rep α} {q : Bool} {w w' : World} {fp : List Nat} {lo hi : Nat} {cs : List Value} {x : α} (h : r.rep q w fp cs x) (m : Mod lo hi w w') (hd : ∀ b ∈ fp, b < lo ∨ hi ≤ b) : r.rep q w' fp cs x :=
  r.same h m.size (fun b hb' => m.block b (r.lt h b hb') (hd b hb'))

def Rep.int : Rep Int where
  n := 1
  rep _ _ fp cs z := fp = [] ∧ cs = [.int .i64 z]
  len h := by rw [h.2]; rfl
  lt h b hb := by rw [h.1] at hb; cases hb
  same h _ _ := h
  loose h := h
def Rep.str : Rep ByteArray where
  n := 1
  rep _ _ fp cs s := fp = [] ∧ cs = [.string s]
  len h := by rw [h.2]; rfl
  lt h b hb := by rw [h.1] at hb; cases hb
  same h _ _ := h
  loose h := h
def Rep.bool : Rep Bool where
  n := 1
  rep _ _ fp cs s := fp = [] ∧ cs = [.bool s]
  len h := by rw [h.2]; rfl
  lt h b hb := by rw [h.1] at hb; cases hb
  same h _ _ := h
  loose h := h
/-- Two fields. -/
def Rep.prod (r : Rep α) (s : Rep β) : Rep (α × β) where
  n := r.n + s.n
  rep q w fp cs p := ∃ f1 f2 c1 c2, fp = f1 ++ f2 ∧ cs = c1 ++ c2 ∧ r.rep q w f1 c1 p.1 ∧ s.rep q w f2 c2 p.2
  len h := by
    obtain ⟨f1, f2, c1, c2, rfl, rfl, h1, h2⟩ := h
    rw [List.length_append, r.len h1, s.len h2]
  lt h b hb := by
    obtain ⟨f1, f2, c1, c2, rfl, rfl, h1, h2⟩ := h
    rcases List.mem_append.1 hb with hb | hb
    · exact r.lt h1 b hb
    · exact s.lt h2 b hb
  same h hs hb := by
    obtain ⟨f1, f2, c1, c2, rfl, rfl, h1, h2⟩ := h
    exact ⟨f1, f2, c1, c2, rfl, rfl, r.same h1 hs (fun b h => hb b (List.mem_append_left _ h)), s.same h2 hs (fun b h => hb b (List.mem_append_right _ h))⟩
  loose h := by
    obtain ⟨f1, f2, c1, c2, rfl, rfl, h1, h2⟩ := h
    exact ⟨f1, f2, c1, c2, rfl, rfl, r.loose h1, s.loose h2⟩
/-- An element of a slice: its blocks, its cells, what it is. -/
abbrev El (α : Type) := List Nat × List Value × α
def fps (es : List (El α)) : List Nat := es.flatMap (·.1)
def cells (es : List (El α)) : List Value := es.flatMap (·.2.1)
def vals (es : List (El α)) : List α := es.map (·.2.2)
theorem vals_len (es : List (El α)) : (vals es).length = es.length := List.length_map ..
theorem mem_fps {es : List (El α)} {e : El α} (h : e ∈ es) {b : Nat} (hb : b ∈ e.1) : b ∈ fps es := List.mem_flatMap.2 ⟨e, h, hb⟩
theorem cells_len {n : Nat} : ∀ {es : List (El α)}, (∀ e ∈ es, e.2.1.length = n) → (cells es).length = es.length * n
  | [], _ => by simp [cells]
  | e :: es, h => by
    have ih := cells_len (n := n) (es := es) (fun e he => h e (List.mem_cons_of_mem _ he))
    unfold cells at ih ⊢
    rw [List.flatMap_cons, List.length_append, ih, h e List.mem_cons_self, List.length_cons, Nat.succ_mul, Nat.add_comm]
theorem cells_at {n : Nat} : ∀ {es : List (El α)}, (∀ e ∈ es, e.2.1.length = n) → ∀ {k i : Nat}, (hk : k < es.length) → i < n → (cells es)[k * n + i]? = es[k].2.1[i]?
  | e :: es, h, 0, i, _, hi => by
    have he := h e List.mem_cons_self
    unfold cells
    rw [List.flatMap_cons, Nat.zero_mul, Nat.zero_add, List.getElem?_append_left (by omega)]
    rfl
  | e :: es, h, k + 1, i, hk, hi => by
    have he := h e List.mem_cons_self
    have ih := cells_at (n := n) (es := es) (fun e he => h e (List.mem_cons_of_mem _ he)) (k := k) (i := i) (by simpa using hk) hi
    unfold cells at ih ⊢
    rw [List.flatMap_cons, List.getElem?_append_right (by rw [he, Nat.succ_mul]; omega), he, Nat.succ_mul, show k * n + n + i - n = k * n + i by omega, ih]
    rfl
theorem cells_append (a b : List (El α)) : cells (a ++ b) = cells a ++ cells b := by simp [cells]
theorem fps_append (a b : List (El α)) : fps (a ++ b) = fps a ++ fps b := by simp [fps]
theorem vals_append (a b : List (El α)) : vals (a ++ b) = vals a ++ vals b := by simp [vals]
/-- A slice. -/
def Rep.slice (r : Rep α) : Rep (List α) where
  n := 1
  rep q w fp cs xs := ∃ A c, cs = [.slice A xs.length c] ∧ xs.length ≤ c ∧ ((xs = [] ∧ fp = []) ∨ ∃ b o es, A = some ⟨b, o, none⟩ ∧ xs = vals es ∧ es ≠ [] ∧ fp = b :: fps es ∧ b < w.heap.size ∧ (∀ e ∈ es, r.rep q w e.1 e.2.1 e.2.2) ∧ Row b (b + 1) w A (cells es) ∧ (q = true → Free w A (cells es).length))
  len h := by
    obtain ⟨A, c, rfl, _⟩ := h
    rfl
  lt h b' hb := by
    obtain ⟨A, c, rfl, _, ⟨_, rfl⟩ | ⟨b, o, es, rfl, rfl, hne, rfl, hl, he, hr, hf⟩⟩ := h
    · cases hb
    · rcases List.mem_cons.1 hb with rfl | hb
      · exact hl
      · obtain ⟨e, h1, h2⟩ := List.mem_flatMap.1 hb
        exact r.lt (he e h1) _ h2
  same {q w w' fp cs x} h hs hb := by
    obtain ⟨A, c, rfl, hc, ⟨rfl, rfl⟩ | ⟨b, o, es, rfl, rfl, hne, rfl, hl, he, hr, hf⟩⟩ := h
    · exact ⟨A, c, rfl, hc, Or.inl ⟨rfl, rfl⟩⟩
    · have hbb := hb b List.mem_cons_self
      refine ⟨_, c, rfl, hc, Or.inr ⟨b, o, es, rfl, rfl, hne, rfl, by omega, fun e h => r.same (he e h) hs (fun b' hb' => hb b' (List.mem_cons_of_mem _ (mem_fps h hb'))), fun hn => ?_, fun hq hn b' o' e j hj => ?_⟩⟩
      · obtain ⟨b', o', e, h1, h2⟩ := hr hn
        injection e with e; injection e with e1 e2; subst e1; subst e2
        exact ⟨b, o, rfl, ⟨h1.1, h1.2.1, by omega⟩, fun j v hj => by rw [World.cell?_of_block (w := w) hbb]; exact h2 j v hj⟩
      · injection e with e; injection e with e1 e2; subst e1; subst e2
        rw [World.frozen?_of_block (w := w) hbb]
        exact hf hq hn b o rfl j hj
  loose h := by
    obtain ⟨A, c, rfl, hc, ⟨rfl, rfl⟩ | ⟨b, o, es, rfl, rfl, hne, rfl, hl, he, hr, hf⟩⟩ := h
    · exact ⟨A, c, rfl, hc, Or.inl ⟨rfl, rfl⟩⟩
    · exact ⟨_, c, rfl, hc, Or.inr ⟨b, o, es, rfl, rfl, hne, rfl, hl, fun e h => r.loose (he e h), hr, fun h => by cases h⟩⟩

/-- A datum in new memory, which nothing else shares. -/
def New (r : Rep α) (w : World) (x : α) (w' : World) (cs : List Value) : Prop := ∃ fp, r.rep true w' fp cs x ∧ fp.Nodup ∧ ∀ b ∈ fp, w.heap.size ≤ b
theorem New.below {r : Rep α} {w w1 w2 : World} {x : α} {cs : List Value} (h : New r w x w1 cs) (hb : Below w1.heap.size w1 w2) : New r w x w2 cs := by
  obtain ⟨fp, h1, h2, h3⟩ := h
  exact ⟨fp, Rep.below h1 hb, h2, h3⟩
end Mem
end Go.Proofs.YtiilopfhlmeaoaaGreatDoor

/-
  An append to a row of the call's own: the new row lies in the old block, or in a new one.
-/
namespace Go.Proofs.YtiilopfhlmeaoaaGreatDoor
open Go.RowKit
namespace RowK

theorem run_append_where {P : Program} {w : World} (t ty e : TypeId) (i : TypeInfo) (z : Value) (size bytes base : Nat) (ht : P.underlying t = some (.slice e)) (hi0 : P.info? e = some i) (hz : i.zero = some z)
    (hsize : i.size = size) (hby : i.bytes = bytes) (hzs : z.cells.size = size) (hsz : 0 < size) (v : Value) (n : Nat) (xs : List Value) (hown : w.ownsRow base e size v n xs)
    (ad : Addr) (m c : Nat) (news : List Value) (hl : news.length = m * size) (hnews : ∀ j u, news[j]? = some u → w.cell? (ad.add j) = some u) (h1 : ∀ u ∈ news, u.oneCell' = true)
    (h63 : n + m ≤ maxLen) (hbytes : (n + m) * bytes ≤ 140737488355328) (hbase : base ≤ w.heap.size) :
    ∃ v' w', (Builtin.append_ #[t, t] ty #[v, .slice (some ad) m c]).run P w = .ok v' w' ∧ w'.ownsRow base e size v' (n + m) (xs ++ news) ∧ w.grownBy w' v.ownBlock ∧ (v'.ownBlock = v.ownBlock ∨ ∀ g, v'.ownBlock = some g → w.heap.size ≤ g) := by
  obtain ⟨v', w', hr, h2, h3, _⟩ := run_append_own (P := P) w base t ty e i z size bytes ht hi0 hz hsize hby hzs hsz v n xs hown ad m c news hl hnews h1 h63 hbytes hbase
  refine ⟨v', w', hr, h2, h3, ?_⟩
  have hlen := hown.1
  rcases hown.2 with ⟨rfl, rfl⟩ | ⟨g, cap, cur, rfl, hb, hg, hn, hm, hs, htake⟩
  · obtain ⟨v2, w2, hr2, k2, _⟩ := run_append_own (P := P) w w.heap.size t ty e i z size bytes ht hi0 hz hsize hby hzs hsz (.slice none 0 0) 0 [] (World.ownsRow_nil w _ e size) ad m c news hl hnews h1 h63 hbytes (Nat.le_refl _)
    rw [hr] at hr2
    injection hr2 with e1 e2
    subst e1; subst e2
    exact Or.inr fun g hg => (k2.lt g hg).1
  · by_cases hroom : n + m ≤ cap
    · left
      have hrun := run_append_room_cells (P := P) w t ty e i ht hi0 g 0 n cap ad m c news (by rw [hsize]; exact hl) hnews h1 hroom (fun j hj => by
        rw [Nat.zero_add, cell_of_row w g _ cur e (0, 0) hg]
        have : n * i.size + j < cur.size := by
          rw [hs, hsize]
          have h5 : (n + m) * size ≤ cap * size := Nat.mul_le_mul_right _ hroom
          rw [Nat.add_mul] at h5
          omega
        simp [this]) (fun j hj => by
        unfold World.frozen?
        rw [hg]
        simp)
      rw [hr] at hrun
      injection hrun with e1 _
      rw [e1]
      rfl
    · right
      obtain ⟨v2, w2, hr2, k2, _⟩ := run_append_arg_grows (P := P) w t ty e i z size bytes ht hi0 hz hsize hby hzs hsz ⟨g, 0, none⟩ n cap xs (by rw [hlen]) (fun j u hu => by
        rw [show (⟨g, 0, none⟩ : Addr).add j = ⟨g, j, none⟩ by unfold Addr.add; split <;> simp_all]
        have hjl := (List.getElem?_eq_some_iff.1 hu).1
        rw [hown.cellAt j (by omega)]
        exact hu) ad m c news hl hnews (by omega) h63 hbytes
      rw [hr] at hr2
      injection hr2 with e1 e2
      subst e1; subst e2
      exact fun g hg => (k2.lt g hg).1

/-- .. as one step of a region that draws. -/
theorem step_append_where {P : Program} {ops : Array Oper} {w : World} {E : Prop} {o : Oper} {a : Act} {K : Act → World → Prop} {Q : Exit → Act → World → Prop} (hgd : o.guard = none) (s x : Operand) (t : TypeId)
    (ho : o.op = .call { callee := .builtin .append, args := #[s, x], argTypes := #[t, t] })
    (e : TypeId) (i : TypeInfo) (z : Value) (size bytes base : Nat) (ht : P.underlying t = some (.slice e)) (hi0 : P.info? e = some i) (hz : i.zero = some z)
    (hsize : i.size = size) (hby : i.bytes = bytes) (hzs : z.cells.size = size) (hsz : 0 < size) (v : Value) (n : Nat) (xs : List Value) (hs : a.eval s = v) (hown : w.ownsRow base e size v n xs)
    (ad : Addr) (m c : Nat) (news : List Value) (hx : a.eval x = .slice (some ad) m c) (hl : news.length = m * size) (hnews : ∀ j u, news[j]? = some u → w.cell? (ad.add j) = some u) (h1 : ∀ u ∈ news, u.oneCell' = true)
    (h63 : n + m ≤ maxLen) (hbytes : (n + m) * bytes ≤ 140737488355328) (hbase : base ≤ w.heap.size)
    (h : ∀ v' w', w'.ownsRow base e size v' (n + m) (xs ++ news) → w.grownBy w' v.ownBlock → (v'.ownBlock = v.ownBlock ∨ ∀ g, v'.ownBlock = some g → w.heap.size ≤ g) → K (a.put o.dst v') w') :
    if Region.wanted o (yielded ops a.tmps) = true then Oper.wp P o a w K Q else E := by
  have hw : Region.wanted o (yielded ops a.tmps) = true := by simp [Region.wanted, hgd]
  rw [if_pos hw]
  obtain ⟨v', w', hr, h2, h3, h4⟩ := run_append_where (P := P) t o.type e i z size bytes base ht hi0 hz hsize hby hzs hsz v n xs hown ad m c news hl hnews h1 h63 hbytes hbase
  unfold Oper.wp execOp
  simp only [ho, resolve, invoke, builtin, Sem.run_bind, Sem.run_pure, Result.andThen_ok, List.map_toArray, List.map_cons, List.map_nil, hs, hx, hr]
  exact h v' w' h2 h3 h4
end RowK
end Go.Proofs.YtiilopfhlmeaoaaGreatDoor

/-
  A slice that a call has made, element by element, whatever its elements: by append ('Owned'), or by make and stores ('Filling').
-/
namespace Go.Proofs.YtiilopfhlmeaoaaGreatDoor
open Go.RowKit
namespace Mem
open RowK
variable {α : Type}

theorem lvar_grown {w w' : World} {b : Nat} {cs : Array Value} {row : Option Nat} (h : Lvar w b cs) (hg : w.grownBy w' row) (hr : row ≠ some b) : Lvar w' b cs := by
  have hl := h.lt
  obtain ⟨T, h⟩ := h
  exact ⟨T, by rw [hg.block b hl (fun e => hr e.symm)]; exact h⟩

/-- Its row and the blocks of its elements are all different, and 'ok'. -/
def Owned (r : Rep α) (e : TypeId) (ok : Nat → Prop) (w : World) (v : Value) (xs : List α) : Prop :=
  ∃ es : List (El α), vals es = xs ∧ w.ownsRow 0 e r.n v xs.length (cells es) ∧ (∀ x ∈ es, r.rep true w x.1 x.2.1 x.2.2) ∧ (fps es).Nodup ∧ (∀ g, v.ownBlock = some g → ok g) ∧ ∀ b ∈ fps es, ok b ∧ v.ownBlock ≠ some b

section
variable {r : Rep α} {e : TypeId} {ok ok' : Nat → Prop} {w w' : World} {v : Value} {xs : List α}
theorem Owned.nil (r : Rep α) (e : TypeId) (ok : Nat → Prop) (w : World) : Owned r e ok w (.slice none 0 0) [] :=
  ⟨[], rfl, World.ownsRow_nil w 0 _ _, (fun _ h => by cases h), List.nodup_nil, (fun _ h => by cases h), (fun _ h => by cases h)⟩
theorem Owned.grown {row : Option Nat} (h : Owned r e ok w v xs) (hg : w.grownBy w' row) (hr : ∀ b, row = some b → ¬ ok b) : Owned r e ok w' v xs := by
  obtain ⟨es, h1, h2, h3, h4, h5, h6⟩ := h
  refine ⟨es, h1, h2.kept hg ?_, fun x hx => r.same (h3 x hx) hg.size (fun b hb => hg.block b (r.lt (h3 x hx) b hb) (fun e' => hr b e'.symm (h6 b (mem_fps hx hb)).1)), h4, h5, h6⟩
  by_cases hv : v.ownBlock = none
  · exact Or.inl hv
  · refine Or.inr fun e' => ?_
    cases hrw : v.ownBlock with
    | none => exact hv hrw
    | some g => exact hr g (by rw [← e', hrw]) (h5 g hrw)
theorem Owned.below (h : Owned r e ok w v xs) (hb : Below w.heap.size w w') : Owned r e ok w' v xs := h.grown (row := none) (StrK.only_below hb none) (fun _ e => by cases e)
theorem Owned.set (h : Owned r e ok w v xs) {b : Nat} (hb : ¬ ok b) (o : Nat) (u : Value) : Owned r e ok (w.setCell ⟨b, o, none⟩ u) v xs := h.grown (StrK.only_set w b o u) (fun r e => by injection e with e; subst e; exact hb)
theorem Owned.to (h : Owned r e ok w v xs) (hk : ∀ b, b < w.heap.size → ok b → ok' b) : Owned r e ok' w v xs := by
  obtain ⟨es, h1, h2, h3, h4, h5, h6⟩ := h
  refine ⟨es, h1, h2, h3, h4, fun g hg => hk g (h2.lt g hg).2 (h5 g hg), fun b hb => ⟨hk b ?_ (h6 b hb).1, (h6 b hb).2⟩⟩
  obtain ⟨x, hx, hb'⟩ := List.mem_flatMap.1 hb
  exact r.lt (h3 x hx) b hb'
/-- One more. -/
theorem Owned.snoc {m : Nat} {w4 w5 : World} {v5 : Value} {es : List (El α)} {fp : List Nat} {cs : List Value} {x : α} (hv : vals es = xs)
    (he : ∀ y ∈ es, r.rep true w4 y.1 y.2.1 y.2.2) (hlt : ∀ b ∈ fps es, b < m) (hn : (fps es).Nodup) (hd : ∀ b ∈ fps es, ok b ∧ v.ownBlock ≠ some b) (hown : ∀ g, v.ownBlock = some g → ok g ∧ g < m)
    (hx : r.rep true w4 fp cs x) (hxn : fp.Nodup) (hxm : ∀ b ∈ fp, m ≤ b) (hok : ∀ b, m ≤ b → ok b)
    (h5 : w5.ownsRow 0 e r.n v5 (xs.length + 1) (cells es ++ cs)) (hg : w4.grownBy w5 v.ownBlock) (hw : v5.ownBlock = v.ownBlock ∨ ∀ g, v5.ownBlock = some g → w4.heap.size ≤ g) (hm : m ≤ w4.heap.size) :
    Owned r e ok w5 v5 (xs ++ [x]) := by
  have hne : ∀ b ∈ fps es ++ fp, b < w4.heap.size ∧ ok b ∧ v.ownBlock ≠ some b := fun b hb => by
    rcases List.mem_append.1 hb with hb | hb
    · obtain ⟨y, h6, h7⟩ := List.mem_flatMap.1 hb
      exact ⟨r.lt (he y h6) b h7, hd b hb⟩
    · have h6 := hxm b hb
      exact ⟨r.lt hx b hb, hok b h6, fun e => by have := (hown b e).2; omega⟩
  refine ⟨es ++ [(fp, cs, x)], by rw [vals_append, hv]; rfl, ?_, ?_, ?_, ?_, ?_⟩
  · rw [List.length_append, List.length_singleton, cells_append]
    simpa [cells] using h5
  · intro y h
    rcases List.mem_append.1 h with h | h
    · exact r.same (he y h) hg.size (fun b hb => hg.block b (r.lt (he y h) b hb) (fun e' => (hne b (List.mem_append_left _ (mem_fps h hb))).2.2 e'.symm))
    · rw [List.mem_singleton.1 h]
      exact r.same hx hg.size (fun b hb => hg.block b (r.lt hx b hb) (fun e' => (hne b (List.mem_append_right _ hb)).2.2 e'.symm))
  · rw [fps_append]
    refine List.nodup_append.2 ⟨hn, by simpa [fps] using hxn, fun a ha b hb e => ?_⟩
    subst e
    have h6 := hlt a ha
    have h7 := hxm a (by simpa [fps] using hb)
    omega
  · intro g hg'
    rcases hw with hw | hw
    · exact (hown g (by rw [← hw]; exact hg')).1
    · exact hok g (Nat.le_trans hm (hw g hg'))
  · intro b hb
    rw [fps_append] at hb
    have h6 := hne b (by
      rcases List.mem_append.1 hb with h | h
      · exact List.mem_append_left _ h
      · exact List.mem_append_right _ (by simpa [fps] using h))
    refine ⟨h6.2.1, fun e => ?_⟩
    rcases hw with hw | hw
    · exact h6.2.2 (by rw [← hw]; exact e)
    · have := hw b e
      omega
/-- .. read as a slice. -/
theorem Owned.rep (h : Owned r e ok w v xs) (hn : 0 < r.n) : ∃ A c fp, v = .slice A xs.length c ∧ (Rep.slice r).rep true w fp [.slice A xs.length c] xs ∧ fp.Nodup ∧ ∀ b ∈ fp, ok b := by
  obtain ⟨es, rfl, h2, h3, h4, h5, h6⟩ := h
  obtain ⟨A, c, rfl, hr, hf, hc, hb⟩ := RowK.of_own h2
  by_cases h0 : es = []
  · subst h0
    exact ⟨A, c, [], rfl, ⟨A, c, rfl, hc, Or.inl ⟨rfl, rfl⟩⟩, List.nodup_nil, fun b h => by cases h⟩
  · have hl := cells_len (n := r.n) (es := es) (fun x hx => r.len (h3 x hx))
    have hne : cells es ≠ [] := fun e => by
      rw [e] at hl
      have h7 : 0 < es.length := List.length_pos_iff.2 h0
      have := Nat.mul_pos h7 hn
      simp at hl
      omega
    obtain ⟨b, o, rfl, ⟨k1, k2, k3⟩, hcell⟩ := hr hne
    have hob : (Value.slice (some ⟨b, o, none⟩) (vals es).length c).ownBlock = some b := rfl
    rw [hob] at h6 h5
    refine ⟨_, c, b :: fps es, rfl, ⟨_, c, rfl, hc, Or.inr ⟨b, o, es, rfl, rfl, h0, rfl, k2, h3, fun _ => ⟨b, o, rfl, ⟨Nat.le_refl _, Nat.lt_succ_self _, by omega⟩, hcell⟩, fun _ => hf⟩⟩, List.nodup_cons.2 ⟨fun h => (h6 b h).2 rfl, h4⟩, fun i hi => ?_⟩
    rcases List.mem_cons.1 hi with rfl | hi
    · exact h5 _ rfl
    · exact (h6 i hi).1
end

/-- Made, and filled so far: the block g holds the first ones' cells, and zeros behind them. -/
def Filling (r : Rep α) (e : TypeId) (z : El α) (ok : Nat → Prop) (w : World) (g n : Nat) (xs : List α) : Prop :=
  ∃ es : List (El α), vals es = xs ∧ (∃ cur : Array Value, w.heap[g]? = some (.cells cur e (0, 0)) ∧ cur.toList = cells es ++ cells (List.replicate (n - xs.length) z)) ∧ (∀ x ∈ es, r.rep true w x.1 x.2.1 x.2.2) ∧ (fps es).Nodup ∧ ok g ∧ ∀ b ∈ fps es, ok b ∧ g ≠ b
section
variable {r : Rep α} {e : TypeId} {z : El α} {ok : Nat → Prop} {w w' : World} {g n : Nat} {xs : List α}
theorem Filling.lt (h : Filling r e z ok w g n xs) : g < w.heap.size := by
  obtain ⟨_, _, ⟨_, h2, _⟩, _⟩ := h
  exact (Array.getElem?_eq_some_iff.1 h2).1
theorem Filling.below (h : Filling r e z ok w g n xs) (hb : Below w.heap.size w w') : Filling r e z ok w' g n xs := by
  have hl := h.lt
  obtain ⟨es, h1, ⟨cur, h2, hc⟩, h3, h4, h5, h6⟩ := h
  exact ⟨es, h1, ⟨cur, by rw [hb.block g hl]; exact h2, hc⟩, fun x hx => Rep.below (h3 x hx) hb, h4, h5, h6⟩
/-- The next one's place. -/
theorem Filling.cell (h : Filling r e z ok w g n xs) (hz : z.2.1.length = r.n) (hk : xs.length < n) {j : Nat} {u : Value} (hj : j < r.n) (hu : z.2.1[j]? = some u) : w.cell? ⟨g, xs.length * r.n + j, none⟩ = some u ∧ w.frozen? ⟨g, xs.length * r.n + j, none⟩ = false := by
  obtain ⟨es, rfl, ⟨cur, h2, hc⟩, h3, _⟩ := h
  have hl := cells_len (n := r.n) (es := es) (fun x hx => r.len (h3 x hx))
  rw [vals_len] at *
  refine ⟨?_, by unfold World.frozen?; rw [h2]; simp⟩
  rw [cell_of_row w g _ cur e (0, 0) h2, ← Array.getElem?_toList, hc, List.getElem?_append_right (by omega), hl, Nat.add_sub_cancel_left]
  have := cells_at (n := r.n) (es := List.replicate (n - es.length) z) (fun y hy => by rw [(List.mem_replicate.1 hy).2]; exact hz) (k := 0) (i := j) (by simp; omega) hj
  rw [Nat.zero_mul, Nat.zero_add] at this
  rw [this]
  simpa using hu
end
/-- Cells stored one behind the other. -/
def stores (w : World) (g : Nat) : Nat → List Value → World
  | _, [] => w
  | o, u :: us => stores (w.setCell ⟨g, o, none⟩ u) g (o + 1) us
theorem stores_modF (g : Nat) : ∀ (us : List Value) (o : Nat) (w : World), ModF [g] w (stores w g o us)
  | [], _, w => ModF.refl _ w
  | u :: us, o, w => (ModF.set w (p := ⟨g, o, none⟩) (by simp) u).trans (stores_modF g us (o + 1) _)
theorem stores_block {g : Nat} {e : TypeId} : ∀ {us : List Value} {o : Nat} {w : World} {cur : Array Value} {a b c : List Value}, w.heap[g]? = some (.cells cur e (0, 0)) → cur.toList = a ++ b ++ c → a.length = o → b.length = us.length →
    ∃ cur' : Array Value, (stores w g o us).heap[g]? = some (.cells cur' e (0, 0)) ∧ cur'.toList = a ++ us ++ c
  | [], o, w, cur, a, b, c, h, hc, ha, hb => ⟨cur, h, by rw [hc, List.eq_nil_of_length_eq_zero hb]⟩
  | u :: us, o, w, cur, a, [], c, h, hc, ha, hb => by simp at hb
  | u :: us, o, w, cur, a, y :: b, c, h, hc, ha, hb => by
    have h1 : (w.setCell ⟨g, o, none⟩ u).heap[g]? = some (.cells (cur.setIfInBounds o u) e (0, 0)) := by
      simp only [World.setCell, Array.getElem?_modify, if_true, h, Option.map_some]
      simp
    have h2 : (cur.setIfInBounds o u).toList = (a ++ [u]) ++ b ++ c := by
      rw [Array.toList_setIfInBounds, hc, List.append_assoc, List.set_append_right _ _ (by omega), ha, Nat.sub_self]
      simp
    obtain ⟨cur', h3, h4⟩ := stores_block (us := us) (o := o + 1) h1 h2 (by simp [ha]) (by simpa using hb)
    exact ⟨cur', h3, by rw [h4]; simp⟩
section
variable {r : Rep α} {e : TypeId} {z : El α} {ok : Nat → Prop} {w w' : World} {g n : Nat} {xs : List α}
/-- One more is stored. -/
theorem Filling.snoc {m : Nat} {fp : List Nat} {x : α} {us : List Value} (h : Filling r e z ok w g n xs) (hz : z.2.1.length = r.n) (hk : xs.length < n) (hb : Below w.heap.size w w') (hm : w.heap.size ≤ m) (hx : r.rep true w' fp us x) (hxn : fp.Nodup) (hxm : ∀ b ∈ fp, m ≤ b) (hok : ∀ b, m ≤ b → ok b) :
    Filling r e z ok (stores w' g (xs.length * r.n) us) g n (xs ++ [x]) := by
  have hlg := h.lt
  obtain ⟨es, rfl, ⟨cur, h2, hc⟩, h3, h4, h5, h6⟩ := h
  have hl := cells_len (n := r.n) (es := es) (fun x hx => r.len (h3 x hx))
  have hold : ∀ b ∈ fps es, b < w.heap.size := fun b hb' => by
    obtain ⟨y, hy, hyb⟩ := List.mem_flatMap.1 hb'
    exact r.lt (h3 y hy) b hyb
  rw [vals_len] at *
  obtain ⟨q, hq⟩ : ∃ q, n - es.length = q + 1 := ⟨n - es.length - 1, by omega⟩
  rw [hq, List.replicate_succ, show cells (z :: List.replicate q z) = z.2.1 ++ cells (List.replicate q z) by simp [cells], ← List.append_assoc] at hc
  have hbl : w'.heap[g]? = some (.cells cur e (0, 0)) := by rw [hb.block g hlg]; exact h2
  obtain ⟨cur', h7, h8⟩ := stores_block (us := us) hbl hc hl (by rw [hz, r.len hx])
  have mm := stores_modF g us (es.length * r.n) w'
  have hg : ∀ b ∈ fp, g ≠ b := fun b hb' e => by have := hxm b hb'; omega
  refine ⟨es ++ [(fp, us, x)], by rw [vals_append]; rfl, ⟨cur', h7, ?_⟩, ?_, ?_, h5, ?_⟩
  · rw [h8, List.length_append, vals_len, List.length_singleton, show n - (es.length + 1) = q by omega, cells_append]
    simp [cells]
  · intro y hy
    rcases List.mem_append.1 hy with hy | hy
    · exact Rep.keepF (Rep.below (h3 y hy) hb) mm (fun b hb' => by have := (h6 b (mem_fps hy hb')).2; simp; exact fun e => this e.symm)
    · rw [List.mem_singleton.1 hy]
      exact Rep.keepF hx mm (fun b hb' => by have := hg b hb'; simp; exact fun e => this e.symm)
  · rw [fps_append]
    refine List.nodup_append.2 ⟨h4, by simpa [fps] using hxn, fun a ha b hb' e => ?_⟩
    subst e
    have h9 := hold a ha
    have h10 := hxm a (by simpa [fps] using hb')
    omega
  · intro b hb'
    rw [fps_append] at hb'
    rcases List.mem_append.1 hb' with h | h
    · exact h6 b h
    · have h9 := by simpa [fps] using h
      exact ⟨hok b (hxm b h9), hg b h9⟩
end
end Mem
end Go.Proofs.YtiilopfhlmeaoaaGreatDoor

/-
  A slice that a call makes by append, whose elements may share memory with others: its own row is apart from its elements' blocks; the elements are only read.
-/
namespace Go.Proofs.YtiilopfhlmeaoaaGreatDoor
open Go.RowKit
namespace RowK
section
variable {P : Program} {w : World}
theorem wpList_append_where {ops : Array Oper} {rest : List Oper} {o : Oper} {a : Act} {Q : Exit → Act → World → Prop} (hgd : o.guard = none) (s x : Operand) (t : TypeId)
    (ho : o.op = .call { callee := .builtin .append, args := #[s, x], argTypes := #[t, t] })
    (base : Nat) (e : TypeId) (i : TypeInfo) (z : Value) (size bytes : Nat) (ht : P.underlying t = some (.slice e)) (hi : P.info? e = some i) (hz : i.zero = some z)
    (hsize : i.size = size) (hby : i.bytes = bytes) (hzs : z.cells.size = size) (hsz : 0 < size)
    (v : Value) (n : Nat) (xs : List Value) (hs : a.eval s = v) (hown : w.ownsRow base e size v n xs)
    (ad : Addr) (m c : Nat) (news : List Value) (hx : a.eval x = .slice (some ad) m c) (hl : news.length = m * size) (hnews : ∀ j u, news[j]? = some u → w.cell? (ad.add j) = some u) (h1 : ∀ u ∈ news, u.oneCell' = true)
    (h63 : n + m ≤ maxLen) (hbytes : (n + m) * bytes ≤ 140737488355328) (hbase : base ≤ w.heap.size)
    (h : ∀ v' w', w'.ownsRow base e size v' (n + m) (xs ++ news) → w.grownBy w' v.ownBlock → (v'.ownBlock = v.ownBlock ∨ ∀ g, v'.ownBlock = some g → w.heap.size ≤ g) → wpList P ops Q rest (a.put o.dst v') w') : wpList P ops Q (o :: rest) a w := by
  refine wpList_plain hgd fun K hK => ?_
  obtain ⟨v', w', hr, h2, h3, h4⟩ := run_append_where (P := P) t o.type e i z size bytes base ht hi hz hsize hby hzs hsz v n xs hown ad m c news hl hnews h1 h63 hbytes hbase
  unfold Oper.wp execOp
  simp only [ho, resolve, invoke, builtin, Sem.run_bind, Sem.run_pure, Result.andThen_ok, List.map_toArray, List.map_cons, List.map_nil, hs, hx, hr]
  exact hK _ _ (h v' w' h2 h3 h4)
end
end RowK
namespace Mem
open RowK
variable {α : Type}
/-- A slice of the call's own; its elements are only read. -/
def Listed (r : Rep α) (e : TypeId) (base : Nat) (w : World) (v : Value) (xs : List α) : Prop :=
  ∃ es : List (El α), vals es = xs ∧ w.ownsRow base e r.n v xs.length (cells es) ∧ (∀ x ∈ es, r.rep false w x.1 x.2.1 x.2.2) ∧ ∀ b ∈ fps es, v.ownBlock ≠ some b
section
variable {r : Rep α} {e : TypeId} {base : Nat} {w w' : World} {v : Value} {xs : List α}
theorem Listed.nil (r : Rep α) (e : TypeId) (base : Nat) (w : World) : Listed r e base w (.slice none 0 0) [] :=
  ⟨[], rfl, World.ownsRow_nil w base _ _, (fun _ h => by cases h), (fun _ h => by cases h)⟩
theorem Listed.empty (r : Rep α) (e : TypeId) (w : World) : Listed r e w.heap.size (w.alloc (.cells #[] e)) (.slice (some ⟨w.heap.size, 0, none⟩) 0 0) [] :=
  ⟨[], rfl, ⟨by simp [cells], Or.inr ⟨_, 0, #[], rfl, Nat.le_refl _, heap_alloc_new _ _, by simp, by simp, by simp, by simp [cells]⟩⟩, (fun _ h => by cases h), (fun _ h => by cases h)⟩
theorem Listed.below (h : Listed r e base w v xs) (hb : Below w.heap.size w w') : Listed r e base w' v xs := by
  obtain ⟨es, h1, h2, h3, h4⟩ := h
  refine ⟨es, h1, h2.kept (StrK.only_below hb none) ?_, fun x hx => Rep.below (h3 x hx) hb, h4⟩
  by_cases hv : v.ownBlock = none
  · exact Or.inl hv
  · exact Or.inr hv
/-- One more, whose blocks are not the row's. -/
theorem Listed.snoc {w5 : World} {v5 : Value} {es : List (El α)} {fp : List Nat} {cs : List Value} {x : α} (hv : vals es = xs)
    (he : ∀ y ∈ es, r.rep false w y.1 y.2.1 y.2.2) (hd : ∀ b ∈ fps es, v.ownBlock ≠ some b) (hx : r.rep false w fp cs x) (hxd : ∀ b ∈ fp, v.ownBlock ≠ some b)
    (h5 : w5.ownsRow base e r.n v5 (xs.length + 1) (cells es ++ cs)) (hg : w.grownBy w5 v.ownBlock) (hw : v5.ownBlock = v.ownBlock ∨ ∀ g, v5.ownBlock = some g → w.heap.size ≤ g) :
    Listed r e base w5 v5 (xs ++ [x]) := by
  have hne : ∀ b ∈ fps es ++ fp, b < w.heap.size ∧ v.ownBlock ≠ some b := fun b hb => by
    rcases List.mem_append.1 hb with hb | hb
    · obtain ⟨y, h6, h7⟩ := List.mem_flatMap.1 hb
      exact ⟨r.lt (he y h6) b h7, hd b hb⟩
    · exact ⟨r.lt hx b hb, hxd b hb⟩
  refine ⟨es ++ [(fp, cs, x)], by rw [vals_append, hv]; rfl, ?_, ?_, ?_⟩
  · rw [List.length_append, List.length_singleton, cells_append]
    simpa [cells] using h5
  · intro y h
    rcases List.mem_append.1 h with h | h
    · exact r.same (he y h) hg.size (fun b hb => hg.block b (r.lt (he y h) b hb) (fun e' => (hne b (List.mem_append_left _ (mem_fps h hb))).2 e'.symm))
    · rw [List.mem_singleton.1 h]
      exact r.same hx hg.size (fun b hb => hg.block b (r.lt hx b hb) (fun e' => (hne b (List.mem_append_right _ hb)).2 e'.symm))
  · intro b hb
    rw [fps_append] at hb
    have h6 := hne b (by
      rcases List.mem_append.1 hb with h | h
      · exact List.mem_append_left _ h
      · exact List.mem_append_right _ (by simpa [fps] using h))
    intro e
    rcases hw with hw | hw
    · exact h6.2 (by rw [← hw]; exact e)
    · have := hw b e
      omega
/-- .. read as a slice. -/
theorem Listed.rep (h : Listed r e base w v xs) (hn : 0 < r.n) : ∃ A c fp, v = .slice A xs.length c ∧ (Rep.slice r).rep false w fp [.slice A xs.length c] xs := by
  obtain ⟨es, rfl, h2, h3, h4⟩ := h
  obtain ⟨A, c, rfl, hr, hf, hc, hb⟩ := RowK.of_own h2
  by_cases h0 : es = []
  · subst h0
    exact ⟨A, c, [], rfl, A, c, rfl, hc, Or.inl ⟨rfl, rfl⟩⟩
  · have hl := cells_len (n := r.n) (es := es) (fun x hx => r.len (h3 x hx))
    have hne : cells es ≠ [] := fun e => by
      rw [e] at hl
      have h7 : 0 < es.length := List.length_pos_iff.2 h0
      have := Nat.mul_pos h7 hn
      simp at hl
      omega
    obtain ⟨b, o, rfl, ⟨k1, k2, k3⟩, hcell⟩ := hr hne
    exact ⟨_, c, b :: fps es, rfl, _, c, rfl, hc, Or.inr ⟨b, o, es, rfl, rfl, h0, rfl, k2, h3, fun _ => ⟨b, o, rfl, ⟨Nat.le_refl _, Nat.lt_succ_self _, by omega⟩, hcell⟩, fun h => by cases h⟩⟩
end
/-- An element of a slice. -/
theorem slice_at {r : Rep α} {q : Bool} {w : World} {fp : List Nat} {A : Option Addr} {n c : Nat} {xs : List α} (h : (Rep.slice r).rep q w fp [.slice A n c] xs) {k : Nat} (hk : k < xs.length) :
    ∃ b o f cs, A = some ⟨b, o, none⟩ ∧ b < w.heap.size ∧ r.rep q w f cs xs[k] ∧ (∀ i, i < r.n → w.cell? ⟨b, o + k * r.n + i, none⟩ = cs[i]?) ∧ ∀ x ∈ f, x ∈ fp := by
  obtain ⟨A', c', e, hc, ⟨rfl, rfl⟩ | ⟨b, o, es, rfl, rfl, hne, rfl, hl, he, hr, hf⟩⟩ := h
  · simp at hk
  · injection e with e _
    injection e with e1 e2 e3
    subst e1
    rw [vals_len] at hk
    have hlen := fun x hx => r.len (he x hx)
    have hcl := cells_len (n := r.n) (es := es) hlen
    refine ⟨b, o, es[k].1, es[k].2.1, rfl, hl, ?_, fun i hi => ?_, fun x hx => List.mem_cons_of_mem _ (mem_fps (List.getElem_mem hk) hx)⟩
    · have := he _ (List.getElem_mem hk)
      simpa [vals] using this
    · have hin : k * r.n + i < (cells es).length := by
        rw [hcl]
        have := Nat.mul_le_mul_right r.n (Nat.succ_le_of_lt hk)
        rw [Nat.succ_mul] at this
        omega
      obtain ⟨b', o', e', _, h2⟩ := hr (fun h0 => by rw [h0] at hin; simp at hin)
      injection e' with e'; injection e' with e1 e2; subst e1; subst e2
      have h3 := h2 (k * r.n + i) _ (List.getElem?_eq_getElem hin)
      rw [Nat.add_assoc, h3, ← List.getElem?_eq_getElem hin]
      exact cells_at hlen hk hi
end Mem
end Go.Proofs.YtiilopfhlmeaoaaGreatDoor

/-
  Slices of any data: their marks, the cells that make lays, what a law is given.
-/
namespace Go.Proofs.YtiilopfhlmeaoaaGreatDoor
open Go.RowKit
namespace Mem
open RowK
section
variable {α : Type} {mk : Nat → α → α} {sz : α → Nat}
def szs (sz : α → Nat) (xs : List α) : Nat := (xs.map sz).sum
theorem szs_cons (x : α) (xs : List α) : szs sz (x :: xs) = sz x + szs sz xs := by simp [szs]
theorem szs_append (a b : List α) : szs sz (a ++ b) = szs sz a + szs sz b := by simp [szs]
theorem szs_take (xs : List α) (k : Nat) : szs sz (xs.take k) ≤ szs sz xs := by
  have h : szs sz xs = szs sz (xs.take k) + szs sz (xs.drop k) := by rw [← szs_append, List.take_append_drop]
  omega
theorem szs_mem : ∀ {xs : List α} {x : α}, x ∈ xs → sz x ≤ szs sz xs
  | y :: ys, x, h => by
    rw [szs_cons]
    rcases List.mem_cons.1 h with rfl | h
    · omega
    · have := szs_mem h
      omega
theorem take_snoc {xs : List α} {k : Nat} (h : k < xs.length) : xs.take (k + 1) = xs.take k ++ [xs[k]] := by rw [List.take_add_one, List.getElem?_eq_getElem h]; rfl
end
/-- A slice in a stretch of blocks, and what an argument holds. -/
def OwnS {α : Type} (r : Rep α) (lo hi : Nat) (w : World) (A : Option Addr) (n c : Nat) (xs : List α) : Prop := hi ≤ w.heap.size ∧ ∃ fp, (Rep.slice r).rep true w fp [.slice A n c] xs ∧ fp.Nodup ∧ ∀ b ∈ fp, lo ≤ b ∧ b < hi
def ArgS {α : Type} (r : Rep α) (w : World) (A : Option Addr) (n c : Nat) (xs : List α) : Prop := ∃ q fp, (Rep.slice r).rep q w fp [.slice A n c] xs
section
variable {α : Type} {r : Rep α} {lo hi lo' hi' n c : Nat} {w w' : World} {A : Option Addr} {xs : List α}
theorem OwnS.below (h : OwnS r lo hi w A n c xs) (hb : Below w.heap.size w w') : OwnS r lo hi w' A n c xs := by
  obtain ⟨h0, fp, h1, h2, h3⟩ := h
  exact ⟨Nat.le_trans h0 hb.size, fp, Rep.below h1 hb, h2, h3⟩
theorem OwnS.keep (h : OwnS r lo hi w A n c xs) (m : Mod lo' hi' w w') (hd : hi ≤ lo' ∨ hi' ≤ lo) : OwnS r lo hi w' A n c xs := by
  obtain ⟨h0, fp, h1, h2, h3⟩ := h
  exact ⟨Nat.le_trans h0 m.size, fp, Rep.keep h1 m (fun b hb => by have := h3 b hb; omega), h2, h3⟩
theorem OwnS.wider (h : OwnS r lo hi w A n c xs) (h1 : lo' ≤ lo) (h2 : hi ≤ hi') (h3 : hi' ≤ w.heap.size) : OwnS r lo' hi' w A n c xs := by
  obtain ⟨_, fp, k1, k2, k3⟩ := h
  exact ⟨h3, fp, k1, k2, fun b hb => ⟨Nat.le_trans h1 (k3 b hb).1, Nat.lt_of_lt_of_le (k3 b hb).2 h2⟩⟩
theorem OwnS.arg (h : OwnS r lo hi w A n c xs) : ArgS r w A n c xs := by
  obtain ⟨_, fp, h1, _⟩ := h
  exact ⟨true, fp, h1⟩
theorem ArgS.below (h : ArgS r w A n c xs) (hb : Below w.heap.size w w') : ArgS r w' A n c xs := by
  obtain ⟨q, fp, h1⟩ := h
  exact ⟨q, fp, Rep.below h1 hb⟩
theorem ArgS.nil (r : Rep α) (w : World) (A : Option Addr) (c : Nat) : ArgS r w A 0 c [] := ⟨true, [], A, c, rfl, Nat.zero_le _, Or.inl ⟨rfl, rfl⟩⟩
theorem OwnS.nil (r : Rep α) (w : World) (A : Option Addr) (c : Nat) (h : hi ≤ w.heap.size) : OwnS r lo hi w A 0 c [] := ⟨h, [], ⟨A, c, rfl, Nat.zero_le _, Or.inl ⟨rfl, rfl⟩⟩, List.nodup_nil, fun _ h => by cases h⟩
theorem Owned.ownS {ok : Nat → Prop} {e : TypeId} {v : Value} (h : Owned r e ok w v xs) (hn : 0 < r.n) (hk : ∀ b, ok b → lo ≤ b) : ∃ A c, v = .slice A xs.length c ∧ OwnS r lo w.heap.size w A xs.length c xs := by
  obtain ⟨A, c, fp, rfl, h1, h2, h3⟩ := h.rep hn
  exact ⟨A, c, rfl, Nat.le_refl _, fp, h1, h2, fun b hb => ⟨hk b (h3 b hb), (Rep.slice r).lt h1 b hb⟩⟩
end
end Mem
end Go.Proofs.YtiilopfhlmeaoaaGreatDoor
