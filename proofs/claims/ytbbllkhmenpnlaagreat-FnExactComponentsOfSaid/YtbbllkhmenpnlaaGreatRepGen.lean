import Derived.OrdersHeld
import Derived.WalkKit
import Derived.WalkSpells
import Derived.WalkLawsBesides
import Derived.Test.YtbbllkhmenpnlaaGreatProg
import Derived.Lib.Hide
import Derived.Lib.Split
import Derived.Lib.CountLaws
import Derived.Deep.QuietTactic
import Derived.BigQuiet
import Derived.OwnWalk
import Derived.Deep.RegionLaw
import Derived.Deep.RegionLawGrows
import Derived.Test.YtbbllkhmenpnlaaGreatStrRow
/-
  Rows of cells in memory, with the stretch of blocks in which they lie ('Row'), and what a call may have written ('Mod').
-/
namespace Go.Proofs.YtbbllkhmenpnlaaGreat
open Go.RowKit
theorem zA {α : Type _} (l : List α) (i : Nat) (a : α) : l.toArray.setIfInBounds i a = (l.set i a).toArray := List.setIfInBounds_toArray ..
theorem zB {α : Type _} (a b : α) (l : List α) : (a :: l).set 0 b = b :: l := rfl
theorem zC {α : Type _} (a b : α) (l : List α) (n : Nat) : (a :: l).set (n + 1) b = a :: l.set n b := rfl
theorem tkW {P : Program} {ops : Array Oper} {Q : Exit → Act → World → Prop} {S : World → Prop} {md : Region.Mode} (i : Nat) (oi : Oper) (v : Value) {fuel : Nat} {listed : Array Bool} {a : Act} {w : World}
  (hy : ∀ w, S w → (execOp a.eval oi).run P w = .ok (.value v) w) (h : wpAnyH P md ops Q S fuel (listed.setIfInBounds i true) (a.put oi.dst v) w) (hS : S w := by assumption)
  (hi : ops[i]? = some oi := by rfl) (hs : Region.noSelect ops = true := by kernel_rfl) (hf : Region.free md ops listed i = true := by kernel_rfl) (hr : (Region.ready md ops listed).contains i = true := by kernel_rfl)
  (hQ : ∀ c a w, Q (.panic c) (a.put oi.dst v) w → Q (.panic c) a w := by exact fun _ _ _ h => h) (hw : Region.wanted oi (yielded ops a.tmps) = true := by rfl) : wpAnyH P md ops Q S (fuel + 1) listed a w :=
 wpAnyH_take hi hs hf hr hQ (Or.inl ⟨hw, hy⟩) hS h
theorem tkU {P : Program} {ops : Array Oper} {Q : Exit → Act → World → Prop} {S : World → Prop} {md : Region.Mode} (i : Nat) (oi : Oper) {fuel : Nat} {listed : Array Bool} {a : Act} {w : World}
  (h : wpAnyH P md ops Q S fuel (listed.setIfInBounds i true) (a.put oi.dst undef) w) (hS : S w := by assumption)
  (hi : ops[i]? = some oi := by rfl) (hs : Region.noSelect ops = true := by kernel_rfl) (hf : Region.free md ops listed i = true := by kernel_rfl) (hr : (Region.ready md ops listed).contains i = true := by kernel_rfl)
  (hQ : ∀ c a w, Q (.panic c) (a.put oi.dst undef) w → Q (.panic c) a w := by exact fun _ _ _ h => h) (hw : Region.wanted oi (yielded ops a.tmps) = false := by rfl) : wpAnyH P md ops Q S (fuel + 1) listed a w :=
 wpAnyH_take hi hs hf hr hQ (Or.inr ⟨hw, rfl⟩) hS h
namespace RowK

structure Mod (lo hi : Nat) (w w' : World) : Prop where
 os : w'.os = w.os
 tape : w'.tape = w.tape
 output : w'.output = w.output
 size : w.heap.size ≤ w'.heap.size
 block : ∀ i, i < w.heap.size → (i < lo ∨ hi ≤ i) → w'.heap[i]? = w.heap[i]?

theorem Mod.refl (lo hi : Nat) (w : World) : Mod lo hi w w := ⟨rfl, rfl, rfl, Nat.le_refl _, fun _ _ _ => rfl⟩
theorem Mod.trans {lo hi : Nat} {a b c : World} (h : Mod lo hi a b) (k : Mod lo hi b c) : Mod lo hi a c :=
 ⟨k.os.trans h.os, k.tape.trans h.tape, k.output.trans h.output, Nat.le_trans h.size k.size, fun i hi hn => (k.block i (Nat.lt_of_lt_of_le hi h.size) hn).trans (h.block i hi hn)⟩
theorem Mod.of_below {lo hi : Nat} {w w' : World} (h : Below w.heap.size w w') : Mod lo hi w w' := ⟨h.os, h.tape, h.output, h.size, fun i hi _ => h.block i hi⟩
theorem Mod.set {lo hi : Nat} (w : World) {p : Addr} (h1 : lo ≤ p.block) (h2 : p.block < hi) (v : Value) : Mod lo hi w (w.setCell p v) :=
 ⟨rfl, rfl, rfl, by simp [World.setCell], fun i _ hn => Below.heap_setCell _ _ _ _ (by omega)⟩
theorem Mod.alloc (lo hi : Nat) (w : World) (o : Obj) : Mod lo hi w (w.alloc o) := Mod.of_below ((Below.refl _ _).alloc (Nat.le_refl _) o)
theorem Mod.wider {lo hi lo' hi' : Nat} {w w' : World} (h : Mod lo hi w w') (h1 : lo' ≤ lo) (h2 : hi ≤ hi') : Mod lo' hi' w w' :=
 ⟨h.os, h.tape, h.output, h.size, fun i hi hn => h.block i hi (by omega)⟩
theorem Mod.drewN {lo hi : Nat} {w w' : World} (h : Mod lo hi w w') (n : Nat) : Mod lo hi w (w'.drewN n) := h.trans ⟨rfl, rfl, rfl, Nat.le_refl _, fun _ _ _ => rfl⟩
theorem Mod.drew {lo hi : Nat} {w w' : World} (h : Mod lo hi w w') : Mod lo hi w w'.drew := h.trans ⟨rfl, rfl, rfl, Nat.le_refl _, fun _ _ _ => rfl⟩
theorem below_drewN {b : Nat} {w w' : World} (h : Below b w w') (n : Nat) : Below b w (w'.drewN n) := h.trans ⟨rfl, rfl, rfl, Nat.le_refl _, fun _ _ => rfl⟩
theorem below_mod {B lo hi : Nat} {w w1 w2 : World} (h : Below B w w1) (k : Mod lo hi w1 w2) (h1 : B ≤ lo) (h2 : B ≤ w1.heap.size) : Below B w w2 :=
 h.trans ⟨k.os, k.tape, k.output, k.size, fun i hi => k.block i (by omega) (by omega)⟩
theorem below_step {w w1 w2 : World} (h : Below w.heap.size w w1) (k : Below w1.heap.size w1 w2) : Below w.heap.size w w2 := h.trans (k.mono h.size)

def Row (lo hi : Nat) (w : World) (A : Option Addr) (vs : List Value) : Prop :=
 vs ≠ [] → ∃ b o, A = some ⟨b, o, none⟩ ∧ (lo ≤ b ∧ b < hi ∧ hi ≤ w.heap.size) ∧ ∀ j v, vs[j]? = some v → w.cell? ⟨b, o + j, none⟩ = some v
def Free (w : World) (A : Option Addr) (n : Nat) : Prop := 0 < n → ∀ b o, A = some ⟨b, o, none⟩ → ∀ j, j < n → w.frozen? ⟨b, o + j, none⟩ = false

theorem Row.keep {lo hi lo' hi' : Nat} {w w' : World} {A : Option Addr} {vs : List Value} (h : Row lo hi w A vs) (hm : Mod lo' hi' w w') (hd : hi ≤ lo' ∨ hi' ≤ lo) : Row lo hi w' A vs := fun hn => by
 obtain ⟨b, o, rfl, ⟨h1, h2, h3⟩, hc⟩ := h hn
 exact ⟨b, o, rfl, ⟨h1, h2, Nat.le_trans h3 hm.size⟩, fun j v hj => by rw [World.cell?_of_block (w := w) (hm.block b (by omega) (by omega))]; exact hc j v hj⟩
theorem Row.below {lo hi : Nat} {w w' : World} {A : Option Addr} {vs : List Value} (h : Row lo hi w A vs) (hb : Below w.heap.size w w') : Row lo hi w' A vs := h.keep (Mod.of_below (lo := hi) (hi := hi) hb) (Or.inl (Nat.le_refl _))
theorem Row.wider {lo hi lo' hi' : Nat} {w : World} {A : Option Addr} {vs : List Value} (h : Row lo hi w A vs) (h1 : lo' ≤ lo) (h2 : hi ≤ hi') (h3 : hi' ≤ w.heap.size) : Row lo' hi' w A vs := fun hn => by
 obtain ⟨b, o, rfl, h4, hc⟩ := h hn
 exact ⟨b, o, rfl, ⟨by omega, by omega, h3⟩, hc⟩
theorem Row.at_ {lo hi : Nat} {w : World} {A : Option Addr} {vs : List Value} (h : Row lo hi w A vs) {k : Nat} (hk : k < vs.length) : ∃ b o, A = some ⟨b, o, none⟩ ∧ (lo ≤ b ∧ b < hi ∧ hi ≤ w.heap.size) ∧ w.cell? ⟨b, o + k, none⟩ = some vs[k] := by
 obtain ⟨b, o, rfl, hlt, hc⟩ := h (fun e => by rw [e] at hk; simp at hk)
 exact ⟨b, o, rfl, hlt, hc k _ (List.getElem?_eq_getElem hk)⟩
theorem row_nil (lo hi : Nat) (w : World) (A : Option Addr) : Row lo hi w A [] := fun h => absurd rfl h

theorem Free.keep {lo hi lo' hi' : Nat} {w w' : World} {A : Option Addr} {vs : List Value} {n : Nat} (h : Free w A n) (hr : Row lo hi w A vs) (hlen : n ≤ vs.length) (hm : Mod lo' hi' w w') (hd : hi ≤ lo' ∨ hi' ≤ lo) : Free w' A n := fun hn b o e j hj => by
 obtain ⟨b', o', e', ⟨h1, h2, h3⟩, _⟩ := hr (fun e => by rw [e] at hlen; simp at hlen; omega)
 rw [e'] at e
 injection e with e; injection e with e1 e2; subst e1; subst e2
 have hf := h hn _ _ e' j hj
 rw [World.frozen?_of_block (w := w) (hm.block b' (by omega) (by omega))]
 exact hf
theorem Free.below {lo hi : Nat} {w w' : World} {A : Option Addr} {vs : List Value} {n : Nat} (h : Free w A n) (hr : Row lo hi w A vs) (hlen : n ≤ vs.length) (hb : Below w.heap.size w w') : Free w' A n := h.keep hr hlen (Mod.of_below (lo := hi) (hi := hi) hb) (Or.inl (Nat.le_refl _))
theorem free_zero (w : World) (A : Option Addr) : Free w A 0 := fun h => absurd h (Nat.lt_irrefl 0)

theorem of_own {w : World} {base sz n : Nat} {e : TypeId} {v : Value} {vs : List Value} (h : w.ownsRow base e sz v n vs) :
  ∃ A cap, v = .slice A n cap ∧ Row base w.heap.size w A vs ∧ Free w A vs.length ∧ n ≤ cap ∧ (∀ a, A = some a → base ≤ a.block) := by
 obtain ⟨hlen, h⟩ := h
 rcases h with ⟨rfl, h0⟩ | ⟨g, cap, cur, rfl, hg, hh, hnc, _, hcs, hcur⟩
 ·subst h0
  have h0' : vs = [] := List.eq_nil_of_length_eq_zero (by simpa using hlen)
  subst h0'
  exact ⟨none, 0, rfl, row_nil _ _ _ _, free_zero _ _, Nat.le_refl _, (fun a e => by cases e)⟩
 ·have hgl : g < w.heap.size := (Array.getElem?_eq_some_iff.1 hh).1
  refine ⟨_, _, rfl, fun _ => ⟨g, 0, rfl, ⟨hg, hgl, Nat.le_refl _⟩, fun j x hj => ?_⟩, fun _ b o e j hj => ?_, hnc, fun a e => ?_⟩
  ·rw [Nat.zero_add, cell_of_row w g j cur e (0, 0) hh]
   rw [← hcur, List.getElem?_take] at hj
   split at hj
   ·simpa using hj
   ·cases hj
  ·injection e with e; injection e with e1 e2; subst e1; subst e2
   unfold World.frozen?
   rw [hh]
   simp
  ·injection e with e; subst e; exact hg

theorem Row.drop {lo hi : Nat} {w : World} {b o : Nat} {vs : List Value} (h : Row lo hi w (some ⟨b, o, none⟩) vs) (i : Nat) : Row lo hi w (some ⟨b, o + i, none⟩) (vs.drop i) := fun hn => by
 obtain ⟨b', o', e, h1, hc⟩ := h (fun e => by rw [e] at hn; simp at hn)
 injection e with e; injection e with e1 e2; subst e1; subst e2
 refine ⟨b, o + i, rfl, h1, fun j v hj => ?_⟩
 rw [List.getElem?_drop] at hj
 have := hc (i + j) v hj
 rwa [show o + i + j = o + (i + j) by omega]

theorem Row.store {lo hi : Nat} {w : World} {b o : Nat} {vs : List Value} (h : Row lo hi w (some ⟨b, o, none⟩) vs) {k : Nat} (hk : k < vs.length) (v : Value) : Row lo hi (w.setCell ⟨b, o + k, none⟩ v) (some ⟨b, o, none⟩) (vs.set k v) := fun _ => by
 obtain ⟨b', o', e, h1, hc⟩ := h (fun e => by rw [e] at hk; simp at hk)
 injection e with e; injection e with e1 e2; subst e1; subst e2
 refine ⟨b, o, rfl, by simpa using h1, fun j x hj => ?_⟩
 by_cases e : j = k
 ·subst e
  rw [List.getElem?_set_self hk] at hj
  injection hj with hj; subst hj
  exact World.cell?_setCell_same _ _ _ (hc j _ (List.getElem?_eq_getElem hk))
 ·rw [List.getElem?_set_ne (by omega)] at hj
  rw [World.cell?_setCell_other _ _ _ _ (by intro h; simp only [Addr.mk.injEq] at h; omega)]
  exact hc j x hj
theorem Free.set {w : World} {A : Option Addr} {n : Nat} (h : Free w A n) (p : Addr) (v : Value) : Free (w.setCell p v) A n := fun hn b o e j hj => by
 rw [World.frozen?_setCell]
 exact h hn b o e j hj
theorem Mod.cell {lo hi : Nat} {w w' : World} (h : Mod lo hi w w') {b o : Nat} {v : Value} (hv : w.cell? ⟨b, o, none⟩ = some v) (hd : b < lo ∨ hi ≤ b) : w'.cell? ⟨b, o, none⟩ = some v := by
 rw [World.cell?_of_block (w := w) (h.block b (World.block_lt_of_cell? w _ hv) hd)]; exact hv

def Lvar (w : World) (b : Nat) (cs : Array Value) : Prop := ∃ T, w.heap[b]? = some (.cells cs T (0, 0))
theorem Lvar.new (w : World) (cs : Array Value) (T : TypeId) : Lvar (w.alloc (.cells cs T)) w.heap.size cs := ⟨T, heap_alloc_new _ _⟩
theorem Lvar.lt {w : World} {b : Nat} {cs : Array Value} (h : Lvar w b cs) : b < w.heap.size := by
 obtain ⟨T, h⟩ := h
 exact (Array.getElem?_eq_some_iff.1 h).1
theorem Lvar.below {w w' : World} {b : Nat} {cs : Array Value} (h : Lvar w b cs) (hb : Below w.heap.size w w') : Lvar w' b cs := by
 have hl := h.lt
 obtain ⟨T, h⟩ := h
 exact ⟨T, by rw [hb.block b hl]; exact h⟩
theorem Lvar.alloc {w : World} {b : Nat} {cs : Array Value} (h : Lvar w b cs) (o : Obj) : Lvar (w.alloc o) b cs := h.below ((Below.refl _ _).alloc (Nat.le_refl _) o)
theorem Lvar.keep {w w' : World} {b lo hi : Nat} {cs : Array Value} (h : Lvar w b cs) (hm : Mod lo hi w w') (hd : b < lo ∨ hi ≤ b) : Lvar w' b cs := by
 have hl := h.lt
 obtain ⟨T, h⟩ := h
 exact ⟨T, by rw [hm.block b hl hd]; exact h⟩
theorem Lvar.other {w : World} {b : Nat} {cs : Array Value} (h : Lvar w b cs) {p : Addr} (hp : b ≠ p.block) (v : Value) : Lvar (w.setCell p v) b cs := by
 obtain ⟨T, h⟩ := h
 exact ⟨T, by rw [Below.heap_setCell _ _ _ _ hp]; exact h⟩
theorem Lvar.set {w : World} {b : Nat} {cs : Array Value} (h : Lvar w b cs) (j : Nat) (v : Value) : Lvar (w.setCell ⟨b, j, none⟩ v) b (cs.setIfInBounds j v) := by
 obtain ⟨T, h⟩ := h
 refine ⟨T, ?_⟩
 simp only [World.setCell, Array.getElem?_modify, if_true, h, Option.map_some]
 simp
theorem Lvar.cell {w : World} {b : Nat} {cs : Array Value} (h : Lvar w b cs) (j : Nat) (v : Value) (hj : cs[j]? = some v) : w.cell? ⟨b, j, none⟩ = some v := by
 obtain ⟨T, h⟩ := h
 rw [cell_of_row w b j cs T (0, 0) h, hj]
theorem Lvar.frozen {w : World} {b : Nat} {cs : Array Value} (h : Lvar w b cs) (j : Nat) : w.frozen? ⟨b, j, none⟩ = false := by
 obtain ⟨T, h⟩ := h
 unfold World.frozen?
 rw [h]
 simp

theorem Lvar.row {w : World} {b : Nat} {cs : Array Value} (h : Lvar w b cs) : Row b (b + 1) w (some ⟨b, 0, none⟩) cs.toList ∧ Free w (some ⟨b, 0, none⟩) cs.size :=
 ⟨fun _ => ⟨b, 0, rfl, ⟨Nat.le_refl _, Nat.lt_succ_self _, h.lt⟩, fun j v hj => by rw [Nat.zero_add]; exact h.cell j v (by simpa using hj)⟩,
  fun _ b' o e j _ => by
  injection e with e; injection e with e1 e2; subst e1; subst e2
  rw [Nat.zero_add]
  exact h.frozen j⟩
end RowK
end Go.Proofs.YtbbllkhmenpnlaaGreat

/-
  The laws' helpers on slices of integers: copy, size, comparison, marks.
-/
namespace Go.Proofs.YtbbllkhmenpnlaaGreat
open Go.RowKit
namespace IntK
open RowK

def iv (zs : List Int) : List Value := zs.map (Value.int .i64)
theorem iv_len (zs : List Int) : (iv zs).length = zs.length := by simp [iv]
theorem iv_get {zs : List Int} {k : Nat} (h : k < zs.length) (h' : k < (iv zs).length) : (iv zs)[k] = .int .i64 zs[k] := by simp [iv]
theorem at_ {lo hi : Nat} {w : World} {A : Option Addr} {zs : List Int} (h : Row lo hi w A (iv zs)) {k : Nat} (hk : k < zs.length) : ∃ b o, A = some ⟨b, o, none⟩ ∧ (lo ≤ b ∧ b < hi ∧ hi ≤ w.heap.size) ∧ w.cell? ⟨b, o + k, none⟩ = some (.int .i64 zs[k]) := by
 obtain ⟨b, o, e, h1, h2⟩ := h.at_ (k := k) (by rw [iv_len]; exact hk)
 exact ⟨b, o, e, h1, by rw [h2, iv_get hk]⟩

def Own (lo hi : Nat) (w : World) (A : Option Addr) (zs : List Int) : Prop := Row lo hi w A (iv zs) ∧ Free w A zs.length
theorem Own.keep {lo hi lo' hi' : Nat} {w w' : World} {A : Option Addr} {zs : List Int} (h : Own lo hi w A zs) (hm : Mod lo' hi' w w') (hd : hi ≤ lo' ∨ hi' ≤ lo) : Own lo hi w' A zs := ⟨h.1.keep hm hd, h.2.keep h.1 (by rw [iv_len]; exact Nat.le_refl _) hm hd⟩
theorem Own.below {lo hi : Nat} {w w' : World} {A : Option Addr} {zs : List Int} (h : Own lo hi w A zs) (hb : Below w.heap.size w w') : Own lo hi w' A zs := ⟨h.1.below hb, h.2.below h.1 (by rw [iv_len]; exact Nat.le_refl _) hb⟩

theorem intInfo : (Tryz.prog.info? 3).map (fun i => (i.zero, i.size, i.bytes)) = some (some (.int .i64 0), 1, 8) := by kernel_rfl

def part (zs : List Int) (k : Nat) : List Value := iv (zs.take k) ++ List.replicate (zs.length - k) (Value.int .i64 0)
theorem part_zero (zs : List Int) : part zs 0 = List.replicate zs.length (Value.int .i64 0) := by simp [part, iv]
theorem part_all (zs : List Int) : part zs zs.length = iv zs := by simp [part]
theorem part_set (zs : List Int) (k : Nat) (h : k < zs.length) : (part zs k).set k (Value.int .i64 zs[k]) = part zs (k + 1) := by
 unfold part iv
 rw [List.set_append_right _ _ (by simp; omega), List.length_map, List.length_take, Nat.min_eq_left (by omega), Nat.sub_self, show zs.length - k = (zs.length - (k + 1)) + 1 by omega, List.replicate_succ, List.set_cons_zero, List.take_add_one, List.getElem?_eq_getElem h, List.map_append, List.append_assoc]
 rfl

theorem run_mk (n : Nat) (hn : n ≤ 1000000000000) (u : World) : (Instr.makeSlice 106 (.int .i64 (n : Int)) (.int .i64 (n : Int))).run Tryz.prog u =
  .ok (.slice (some ⟨u.heap.size, 0, none⟩) n n) (u.alloc (.cells (madeCells #[.int .i64 0] n) 3)) := by
 obtain ⟨i0, hi, hz0, hz1, hz2⟩ := info_parts intInfo
 have h := run_make (P := Tryz.prog) u 106 3 i0 (.int .i64 0) Tryz.underlying106 hi hz0 .i64 .i64 (n : Int) (n : Int) (by omega) (Int.le_refl _) (by rw [hz2]; omega) (by omega)
 simpa [hz1, Value.cells] using h
theorem made_own (n : Nat) (hn : n ≤ 1000000000000) (w : World) : (w.alloc (.cells (madeCells #[.int .i64 0] n) 3)).ownsRow w.heap.size 3 1 (.slice (some ⟨w.heap.size, 0, none⟩) n n) n (List.replicate n (.int .i64 0)) := by
 refine ⟨by simp, Or.inr ⟨w.heap.size, n, _, rfl, Nat.le_refl _, heap_alloc_new _ _, Nat.le_refl _, by unfold maxLen; omega, by rw [size_madeCells, Nat.mul_one], ?_⟩⟩
 rw [toList_madeCells_one]
 simp

def Copied (w : World) (zs : List Int) (e : Ending) (w' : World) : Prop :=
 ∃ A, e = .returned (.slice A zs.length zs.length) ∧ Row w.heap.size w'.heap.size w' A (iv zs) ∧ Free w' A zs.length ∧ Below w.heap.size w w'

set_option maxHeartbeats 1000000 in
set_option maxRecDepth 100000 in
theorem copy (lo hi : Nat) (A : Option Addr) (c : Nat) (zs : List Int) (w : World) (hA : Row lo hi w A (iv zs)) (hl : zs.length ≤ 1000000000) :
  Calls Tryz.prog 210 #[.slice A zs.length c] w (Copied w zs) := by
 have hmk := run_mk zs.length (by omega)
 have hown0 := made_own zs.length (by omega) w
 rw [← part_zero] at hown0
 have HO := Lib.hid hown0
 clear hown0
 go_enter Tryz.func210, Tryz.ntmps210
 go_wp2
 go_loopw [4] (fun i wr => ∃ k : Nat, k ≤ zs.length ∧ i = .int .i64 k ∧ wr.ownsRow w.heap.size 3 1 (.slice (some ⟨w.heap.size, 0, none⟩) zs.length zs.length) zs.length (part zs k) ∧ Below w.heap.size w wr) (fun i _ => zs.length - (intOf i).toNat)
 case atStart => exact ⟨0, Nat.zero_le _, rfl, HO.out, (Below.refl _ _).alloc (Nat.le_refl _) _⟩
 case round =>
  obtain ⟨k, hk, rfl, hown, hb⟩ := hrel
  by_cases hlt : k < zs.length
  ·obtain ⟨b, o, rfl, hbl, hc⟩ := at_ (hA.below hb) hlt
   have hst := hown.stored k (.int .i64 zs[k])
   rw [part_set zs k hlt] at hst
   have hcell : wr.cell? ⟨w.heap.size, k, none⟩ = some (.int .i64 0) := by
    rw [hown.cellAt k (by omega)]
    simp only [part, iv]
    rw [List.getElem?_append_right (by simp; omega), List.length_map, List.length_take, Nat.min_eq_left (by omega), Nat.sub_self, List.getElem?_replicate, if_pos (by omega)]
   have hfr := hown.frozenAt k
   have hb1 : Below w.heap.size w (wr.setCell ⟨w.heap.size, k, none⟩ (.int .i64 zs[k])) := hb.setCell (Nat.le_refl _) _
   have HST := Lib.hid hst.1
   have HB := Lib.hid hb1
   clear hst hb1 hown
   generalize zs[k] = s at *
   go_wp2
   go_roundw
   case rel => exact ⟨k + 1, by omega, by go_num, HST.out, HB.out⟩
   case measure => simp [intOf]; omega
  ·obtain rfl : k = zs.length := by omega
   go_wp2
   go_ret
   rw [part_all] at hown
   obtain ⟨A', cap, e, h1, h2, _, _⟩ := of_own hown
   injection e with e1 e2 e3
   subst e1
   rw [iv_len] at h2
   exact ⟨_, rfl, h1, h2, hb⟩

def leftOf (L n : Nat) : Int := if n ≤ L then (L : Int) - n else -1

theorem size (A : Option Addr) (c L n : Nat) (w : World) (hL : L ≤ 1000000000000) (hl : n ≤ 9223372036854775807) :
  Calls Tryz.prog 207 #[.slice A n c, .int .i64 L] w fun e w' => e = .returned (.int .i64 (leftOf L n)) ∧ w = w' := by
 unfold leftOf
 by_cases h0 : n ≤ L
 ·rw [if_pos h0]
  go_enter Tryz.func207, Tryz.ntmps207
  go_wp2
  go_ret
  exact ⟨rfl, rfl⟩
 ·rw [if_neg h0]
  go_enter Tryz.func207, Tryz.ntmps207
  go_wp2
  go_ret
  exact ⟨rfl, rfl⟩

set_option maxHeartbeats 400000 in
set_option maxRecDepth 100000 in
theorem eq_same (lo hi lo' hi' : Nat) (A B : Option Addr) (c d : Nat) (zs : List Int) (w : World) (hA : Row lo hi w A (iv zs)) (hB : Row lo' hi' w B (iv zs)) (hl : zs.length ≤ 1000000000000) :
  Calls Tryz.prog 213 #[.slice A zs.length c, .slice B zs.length d] w fun e w' => e = .returned (.bool true) ∧ Below w.heap.size w w' := by
 go_enter Tryz.func213, Tryz.ntmps213
 go_wp2
 go_loopw [5] (fun i wr => ∃ k : Nat, k ≤ zs.length ∧ i = .int .i64 k ∧ Below w.heap.size w wr) (fun i _ => zs.length - (intOf i).toNat)
 case atStart => exact ⟨0, Nat.zero_le _, rfl, Below.refl _ _⟩
 case round =>
  obtain ⟨k, hk, rfl, hb⟩ := hrel
  by_cases hlt : k < zs.length
  ·obtain ⟨b1, o1, rfl, hlt1, hc1⟩ := at_ (hA.below hb) hlt
   obtain ⟨b2, o2, rfl, hlt2, hc2⟩ := at_ (hB.below hb) hlt
   generalize zs[k] = s at hc1 hc2
   have hi0 : (0 : Int) ≤ (k : Int) := by omega
   have hi1 : (k : Int) < (zs.length : Int) := by omega
   go_wp2
   go_quiet (fail)
   go_wp2
   go_roundw
   case rel => exact ⟨k + 1, by omega, by go_num, below_drewN hb _⟩
   case measure => simp [intOf]; omega
  ·go_wp2
   go_ret
   exact ⟨rfl, hb⟩

def marks (k n : Nat) : List Int := (List.range n).map fun j => ((k + j : Nat) : Int)
theorem marks_length (k n : Nat) : (marks k n).length = n := by simp [marks]
theorem marks_at {k n j : Nat} (_h : j < n) (h' : j < (marks k n).length) : (marks k n)[j] = ((k : Int) + j) := by simp [marks]

set_option maxHeartbeats 400000 in
set_option maxRecDepth 100000 in
theorem mark_some (lo hi b o c k : Nat) (zs : List Int) (w : World) (hlt0 : lo ≤ b ∧ b < hi ∧ hi ≤ w.heap.size) (hc : ∀ j (h : j < zs.length), w.cell? ⟨b, o + j, none⟩ = some (.int .i64 zs[j])) (hf : ∀ j, j < zs.length → w.frozen? ⟨b, o + j, none⟩ = false)
  (h2 : k + zs.length ≤ 1000000000000) :
  Calls Tryz.prog 158 #[.slice (some ⟨b, o, none⟩) zs.length c, .int .i64 k] w fun e w' => e = .returned (.int .i64 ((k : Int) + zs.length)) ∧ Row lo hi w' (some ⟨b, o, none⟩) (iv (marks k zs.length)) ∧ Mod lo hi w w' ∧ Free w' (some ⟨b, o, none⟩) zs.length := by
 have HC := Lib.hid hc
 have HF := Lib.hid hf
 clear hc hf
 go_enter Tryz.func158, Tryz.ntmps158
 go_wp2
 go_loopw [1, 5] (fun x i wr => ∃ m : Nat, m ≤ zs.length ∧ i = .int .i64 m ∧ x = .int .i64 ((k : Int) + m) ∧ Mod lo hi w wr ∧
   (∀ j, j < m → wr.cell? ⟨b, o + j, none⟩ = some (.int .i64 ((k : Int) + j))) ∧ (∀ j, m ≤ j → j < zs.length → ∃ s, wr.cell? ⟨b, o + j, none⟩ = some (.int .i64 s)) ∧ (∀ j, j < zs.length → wr.frozen? ⟨b, o + j, none⟩ = false)) (fun _ i _ => zs.length - (intOf i).toNat)
 case atStart => exact ⟨0, Nat.zero_le _, rfl, by simp, Mod.refl _ _ _, fun j hj => by omega, fun j _ hj => ⟨_, HC.out j hj⟩, HF.out⟩
 case round =>
  obtain ⟨m, hm, rfl, rfl, ho, hdone, hleft, hfr⟩ := hrel
  by_cases hlt : m < zs.length
  ·have HD := Lib.hid hdone
   have HL := Lib.hid hleft
   have HF1 := Lib.hid hfr
   clear hdone hleft hfr
   obtain ⟨s, hcell⟩ := HL.out m (Nat.le_refl _) hlt
   have hfr1 := HF1.out m hlt
   have hk0 : (0 : Int) ≤ (k : Int) + m := by omega
   have ho1 : Mod lo hi w (wr.setCell ⟨b, o + m, none⟩ (.int .i64 ((k : Int) + m))) := ho.trans (Mod.set _ hlt0.1 hlt0.2.1 _)
   have hD1 : ∀ j, j < m + 1 → (wr.setCell ⟨b, o + m, none⟩ (.int .i64 ((k : Int) + m))).cell? ⟨b, o + j, none⟩ = some (.int .i64 ((k : Int) + j)) := fun j hj => by
    by_cases e : j = m
    ·subst e; rw [World.cell?_setCell_same _ _ _ hcell]
    ·rw [World.cell?_setCell_other _ _ _ _ (by intro h; simp only [Addr.mk.injEq] at h; omega)]
     exact HD.out j (by omega)
   have hL1 : ∀ j, m + 1 ≤ j → j < zs.length → ∃ s, (wr.setCell ⟨b, o + m, none⟩ (.int .i64 ((k : Int) + m))).cell? ⟨b, o + j, none⟩ = some (.int .i64 s) := fun j h1 h2 => by
    rw [World.cell?_setCell_other _ _ _ _ (by intro h; simp only [Addr.mk.injEq] at h; omega)]
    exact HL.out j (by omega) h2
   have hF1 : ∀ j, j < zs.length → (wr.setCell ⟨b, o + m, none⟩ (.int .i64 ((k : Int) + m))).frozen? ⟨b, o + j, none⟩ = false := fun j hj => by
    rw [World.frozen?_setCell]
    exact HF1.out j hj
   have K1 := Lib.hid ho1
   have K2 := Lib.hid hD1
   have K3 := Lib.hid hL1
   have K4 := Lib.hid hF1
   clear ho1 hD1 hL1 hF1
   go_wp2
   go_roundw
   case rel => exact ⟨m + 1, by omega, by go_num, congrArg (Value.int .i64) (by omega), K1.out, K2.out, K3.out, K4.out⟩
   case measure => simp [intOf]; omega
  ·obtain rfl : m = zs.length := by omega
   have K2 := Lib.hid hdone
   clear hdone hleft
   go_wp2
   go_ret
   refine ⟨rfl, fun _ => ⟨b, o, rfl, ⟨hlt0.1, hlt0.2.1, Nat.le_trans hlt0.2.2 ho.size⟩, fun j s hj => ?_⟩, ho, fun _ b' o' e j hj => ?_⟩
   ·have hjl : j < zs.length := by
     have := (List.getElem?_eq_some_iff.1 hj).1
     rwa [iv_len, marks_length] at this
    rw [List.getElem?_eq_getElem (by rw [iv_len, marks_length]; exact hjl), iv_get (by rw [marks_length]; exact hjl), marks_at hjl] at hj
    rw [K2.out j hjl, ← Option.some.inj hj]
   ·injection e with e; injection e with e1 e2; subst e1; subst e2
    exact hfr j hj

theorem mark (lo hi : Nat) (A : Option Addr) (c k : Nat) (zs : List Int) (w : World) (hA : Row lo hi w A (iv zs)) (hf : Free w A zs.length) (h2 : k + zs.length ≤ 1000000000000) :
  Calls Tryz.prog 158 #[.slice A zs.length c, .int .i64 k] w fun e w' => e = .returned (.int .i64 ((k : Int) + zs.length)) ∧ Row lo hi w' A (iv (marks k zs.length)) ∧ Mod lo hi w w' ∧ Free w' A zs.length := by
 by_cases hn : zs = []
 ·subst hn
  go_enter Tryz.func158, Tryz.ntmps158
  go_wp2
  refine wp_loop_rounds 1 ?_
  rw [rounds_succ]
  go_wp2
  go_ret
  exact ⟨by simp, fun h => absurd rfl h, Mod.refl _ _ _, free_zero _ _⟩
 ·obtain ⟨b, o, rfl, hlt, hc⟩ := hA (by simpa [iv] using hn)
  have hpos : 0 < zs.length := List.length_pos_iff.2 hn
  exact mark_some lo hi b o c k zs w hlt (fun j hj => hc j _ (by rw [List.getElem?_eq_getElem (by rw [iv_len]; exact hj), iv_get hj])) (fun j hj => hf hpos b o rfl j hj) h2

end IntK
end Go.Proofs.YtbbllkhmenpnlaaGreat

/-
  Data in memory: how a datum's cells and the blocks of its slices lie ('Rep'), for numbers, strings, structs and slices of any of them.
-/
namespace Go.Proofs.YtbbllkhmenpnlaaGreat
open Go.RowKit
namespace Mem
open RowK

structure ModF (fp : List Nat) (w w' : World) : Prop where
 os : w'.os = w.os
 tape : w'.tape = w.tape
 output : w'.output = w.output
 size : w.heap.size ≤ w'.heap.size
 block : ∀ i, i < w.heap.size → i ∉ fp → w'.heap[i]? = w.heap[i]?
theorem ModF.refl (fp : List Nat) (w : World) : ModF fp w w := ⟨rfl, rfl, rfl, Nat.le_refl _, fun _ _ _ => rfl⟩
theorem ModF.trans {fp : List Nat} {a b c : World} (h : ModF fp a b) (k : ModF fp b c) : ModF fp a c :=
 ⟨k.os.trans h.os, k.tape.trans h.tape, k.output.trans h.output, Nat.le_trans h.size k.size, fun i hi hn => (k.block i (Nat.lt_of_lt_of_le hi h.size) hn).trans (h.block i hi hn)⟩
theorem ModF.of_below {fp : List Nat} {w w' : World} (h : Below w.heap.size w w') : ModF fp w w' := ⟨h.os, h.tape, h.output, h.size, fun i hi _ => h.block i hi⟩
theorem ModF.wider {fp fp' : List Nat} {w w' : World} (h : ModF fp w w') (hs : ∀ b ∈ fp, b ∈ fp') : ModF fp' w w' := ⟨h.os, h.tape, h.output, h.size, fun i hi hn => h.block i hi (fun e => hn (hs i e))⟩
theorem ModF.set {fp : List Nat} (w : World) {p : Addr} (h : p.block ∈ fp) (v : Value) : ModF fp w (w.setCell p v) :=
 ⟨rfl, rfl, rfl, by simp [World.setCell], fun i _ hn => Below.heap_setCell _ _ _ _ (fun e => hn (e ▸ h))⟩
theorem ModF.mod {fp : List Nat} {w w' : World} {lo hi : Nat} (h : ModF fp w w') (hb : ∀ b ∈ fp, lo ≤ b ∧ b < hi) : Mod lo hi w w' := ⟨h.os, h.tape, h.output, h.size, fun i hi hn => h.block i hi (fun e => by have := hb i e; omega)⟩
structure Rep (α : Type) where
 n : Nat
 rep : Bool → World → List Nat → List Value → α → Prop
 len : ∀ {q w fp cs x}, rep q w fp cs x → cs.length = n
 lt : ∀ {q w fp cs x}, rep q w fp cs x → ∀ b ∈ fp, b < w.heap.size
 same : ∀ {q w w' fp cs x}, rep q w fp cs x → w.heap.size ≤ w'.heap.size → (∀ b ∈ fp, w'.heap[b]? = w.heap[b]?) → rep q w' fp cs x
 loose : ∀ {q w fp cs x}, rep q w fp cs x → rep false w fp cs x

variable {α β : Type}
theorem Rep.below {r : Rep α} {q : Bool} {w w' : World} {fp : List Nat} {cs : List Value} {x : α} (h : r.rep q w fp cs x) (hb : Below w.heap.size w w') : r.rep q w' fp cs x :=
 r.same h hb.size (fun b hb' => hb.block b (r.lt h b hb'))
theorem Rep.keepF {r : Rep α} {q : Bool} {w w' : World} {fp gp : List Nat} {cs : List Value} {x : α} (h : r.rep q w fp cs x) (m : ModF gp w w') (hd : ∀ b ∈ fp, b ∉ gp) : r.rep q w' fp cs x :=
 r.same h m.size (fun b hb' => m.block b (r.lt h b hb') (hd b hb'))
theorem Rep.keep {r : Rep α} {q : Bool} {w w' : World} {fp : List Nat} {lo hi : Nat} {cs : List Value} {x : α} (h : r.rep q w fp cs x) (m : Mod lo hi w w') (hd : ∀ b ∈ fp, b < lo ∨ hi ≤ b) : r.rep q w' fp cs x :=
 r.same h m.size (fun b hb' => m.block b (r.lt h b hb') (hd b hb'))

def Rep.int : Rep Int where
 n := 1
 rep _ _ fp cs z := fp = [] ∧ cs = [.int .i64 z]
 len h := by rw [h.2]; rfl
 lt h b hb := by rw [h.1] at hb; cases hb
 same h _ _ := h
 loose h := h
def Rep.str : Rep ByteArray where
 n := 1
 rep _ _ fp cs s := fp = [] ∧ cs = [.string s]
 len h := by rw [h.2]; rfl
 lt h b hb := by rw [h.1] at hb; cases hb
 same h _ _ := h
 loose h := h
def Rep.bool : Rep Bool where
 n := 1
 rep _ _ fp cs s := fp = [] ∧ cs = [.bool s]
 len h := by rw [h.2]; rfl
 lt h b hb := by rw [h.1] at hb; cases hb
 same h _ _ := h
 loose h := h
def Rep.prod (r : Rep α) (s : Rep β) : Rep (α × β) where
 n := r.n + s.n
 rep q w fp cs p := ∃ f1 f2 c1 c2, fp = f1 ++ f2 ∧ cs = c1 ++ c2 ∧ r.rep q w f1 c1 p.1 ∧ s.rep q w f2 c2 p.2
 len h := by
  obtain ⟨f1, f2, c1, c2, rfl, rfl, h1, h2⟩ := h
  rw [List.length_append, r.len h1, s.len h2]
 lt h b hb := by
  obtain ⟨f1, f2, c1, c2, rfl, rfl, h1, h2⟩ := h
  rcases List.mem_append.1 hb with hb | hb
  ·exact r.lt h1 b hb
  ·exact s.lt h2 b hb
 same h hs hb := by
  obtain ⟨f1, f2, c1, c2, rfl, rfl, h1, h2⟩ := h
  exact ⟨f1, f2, c1, c2, rfl, rfl, r.same h1 hs (fun b h => hb b (List.mem_append_left _ h)), s.same h2 hs (fun b h => hb b (List.mem_append_right _ h))⟩
 loose h := by
  obtain ⟨f1, f2, c1, c2, rfl, rfl, h1, h2⟩ := h
  exact ⟨f1, f2, c1, c2, rfl, rfl, r.loose h1, s.loose h2⟩
abbrev El (α : Type) := List Nat × List Value × α
def fps (es : List (El α)) : List Nat := es.flatMap (·.1)
def cells (es : List (El α)) : List Value := es.flatMap (·.2.1)
def vals (es : List (El α)) : List α := es.map (·.2.2)
theorem vals_len (es : List (El α)) : (vals es).length = es.length := List.length_map ..
theorem mem_fps {es : List (El α)} {e : El α} (h : e ∈ es) {b : Nat} (hb : b ∈ e.1) : b ∈ fps es := List.mem_flatMap.2 ⟨e, h, hb⟩
theorem cells_len {n : Nat} : ∀ {es : List (El α)}, (∀ e ∈ es, e.2.1.length = n) → (cells es).length = es.length * n
 | [], _ => by simp [cells]
 | e :: es, h => by
  have ih := cells_len (n := n) (es := es) (fun e he => h e (List.mem_cons_of_mem _ he))
  unfold cells at ih ⊢
  rw [List.flatMap_cons, List.length_append, ih, h e List.mem_cons_self, List.length_cons, Nat.succ_mul, Nat.add_comm]
theorem cells_at {n : Nat} : ∀ {es : List (El α)}, (∀ e ∈ es, e.2.1.length = n) → ∀ {k i : Nat}, (hk : k < es.length) → i < n → (cells es)[k * n + i]? = es[k].2.1[i]?
 | e :: es, h, 0, i, _, hi => by
  have he := h e List.mem_cons_self
  unfold cells
  rw [List.flatMap_cons, Nat.zero_mul, Nat.zero_add, List.getElem?_append_left (by omega)]
  rfl
 | e :: es, h, k + 1, i, hk, hi => by
  have he := h e List.mem_cons_self
  have ih := cells_at (n := n) (es := es) (fun e he => h e (List.mem_cons_of_mem _ he)) (k := k) (i := i) (by simpa using hk) hi
  unfold cells at ih ⊢
  rw [List.flatMap_cons, List.getElem?_append_right (by rw [he, Nat.succ_mul]; omega), he, Nat.succ_mul, show k * n + n + i - n = k * n + i by omega, ih]
  rfl
theorem cells_append (a b : List (El α)) : cells (a ++ b) = cells a ++ cells b := by simp [cells]
theorem fps_append (a b : List (El α)) : fps (a ++ b) = fps a ++ fps b := by simp [fps]
theorem vals_append (a b : List (El α)) : vals (a ++ b) = vals a ++ vals b := by simp [vals]
def Rep.slice (r : Rep α) : Rep (List α) where
 n := 1
 rep q w fp cs xs := ∃ A c, cs = [.slice A xs.length c] ∧ xs.length ≤ c ∧ ((xs = [] ∧ fp = []) ∨ ∃ b o es, A = some ⟨b, o, none⟩ ∧ xs = vals es ∧ es ≠ [] ∧ fp = b :: fps es ∧ b < w.heap.size ∧ (∀ e ∈ es, r.rep q w e.1 e.2.1 e.2.2) ∧ Row b (b + 1) w A (cells es) ∧ (q = true → Free w A (cells es).length))
 len h := by
  obtain ⟨A, c, rfl, _⟩ := h
  rfl
 lt h b' hb := by
  obtain ⟨A, c, rfl, _, ⟨_, rfl⟩ | ⟨b, o, es, rfl, rfl, hne, rfl, hl, he, hr, hf⟩⟩ := h
  ·cases hb
  ·rcases List.mem_cons.1 hb with rfl | hb
   ·exact hl
   ·obtain ⟨e, h1, h2⟩ := List.mem_flatMap.1 hb
    exact r.lt (he e h1) _ h2
 same {q w w' fp cs x} h hs hb := by
  obtain ⟨A, c, rfl, hc, ⟨rfl, rfl⟩ | ⟨b, o, es, rfl, rfl, hne, rfl, hl, he, hr, hf⟩⟩ := h
  ·exact ⟨A, c, rfl, hc, Or.inl ⟨rfl, rfl⟩⟩
  ·have hbb := hb b List.mem_cons_self
   refine ⟨_, c, rfl, hc, Or.inr ⟨b, o, es, rfl, rfl, hne, rfl, by omega, fun e h => r.same (he e h) hs (fun b' hb' => hb b' (List.mem_cons_of_mem _ (mem_fps h hb'))), fun hn => ?_, fun hq hn b' o' e j hj => ?_⟩⟩
   ·obtain ⟨b', o', e, h1, h2⟩ := hr hn
    injection e with e; injection e with e1 e2; subst e1; subst e2
    exact ⟨b, o, rfl, ⟨h1.1, h1.2.1, by omega⟩, fun j v hj => by rw [World.cell?_of_block (w := w) hbb]; exact h2 j v hj⟩
   ·injection e with e; injection e with e1 e2; subst e1; subst e2
    rw [World.frozen?_of_block (w := w) hbb]
    exact hf hq hn b o rfl j hj
 loose h := by
  obtain ⟨A, c, rfl, hc, ⟨rfl, rfl⟩ | ⟨b, o, es, rfl, rfl, hne, rfl, hl, he, hr, hf⟩⟩ := h
  ·exact ⟨A, c, rfl, hc, Or.inl ⟨rfl, rfl⟩⟩
  ·exact ⟨_, c, rfl, hc, Or.inr ⟨b, o, es, rfl, rfl, hne, rfl, hl, fun e h => r.loose (he e h), hr, fun h => by cases h⟩⟩

def New (r : Rep α) (w : World) (x : α) (w' : World) (cs : List Value) : Prop := ∃ fp, r.rep true w' fp cs x ∧ fp.Nodup ∧ ∀ b ∈ fp, w.heap.size ≤ b
theorem New.below {r : Rep α} {w w1 w2 : World} {x : α} {cs : List Value} (h : New r w x w1 cs) (hb : Below w1.heap.size w1 w2) : New r w x w2 cs := by
 obtain ⟨fp, h1, h2, h3⟩ := h
 exact ⟨fp, Rep.below h1 hb, h2, h3⟩
end Mem
end Go.Proofs.YtbbllkhmenpnlaaGreat

/-
  The laws' helpers on linear expressions: copy, size, comparison, marks.
-/
namespace Go.Proofs.YtbbllkhmenpnlaaGreat
open Go.RowKit
namespace LinK
open RowK

theorem bcell {W w1 : World} (hb : Below W.heap.size W w1) : (∀ b o, b < W.heap.size → w1.cell? ⟨b, o, none⟩ = W.cell? ⟨b, o, none⟩) ∧ (∀ b o, b < W.heap.size → w1.frozen? ⟨b, o, none⟩ = W.frozen? ⟨b, o, none⟩) :=
 ⟨fun b o h => hb.cell (p := ⟨b, o, none⟩) h, fun b o h => hb.frozen (p := ⟨b, o, none⟩) h⟩

def Copied (w : World) (z : Int) (zs : List Int) (e : Ending) (w' : World) : Prop :=
 ∃ A, e = .returned (.agg #[.int .i64 z, .slice A zs.length zs.length]) ∧ Row w.heap.size w'.heap.size w' A (IntK.iv zs) ∧ Free w' A zs.length ∧ Below w.heap.size w w'

set_option maxHeartbeats 1000000 in
set_option maxRecDepth 100000 in
theorem copy (lo hi : Nat) (z : Int) (A : Option Addr) (c : Nat) (zs : List Int) (w : World) (hA : Row lo hi w A (IntK.iv zs)) (hl : zs.length ≤ 1000000000) :
  Calls Tryz.prog 190 #[.agg #[.int .i64 z, .slice A zs.length c]] w (Copied w z zs) := by
 go_enter Tryz.func190, Tryz.ntmps190
 go_wp2_with fail
 refine (IntK.copy lo hi A c zs _ (hA.below (((Below.refl _ _).alloc (Nat.le_refl _) _ |>.alloc (by simp) _).alloc (by simp; omega) _)) hl).mono ?_
 rintro e w1 ⟨A1, rfl, r1, f1, b1⟩
 have b0 : Below w.heap.size w w1 := (((Below.refl _ _).alloc (Nat.le_refl _) _ |>.alloc (by simp) _).alloc (by simp; omega) _).trans (b1.mono (by simp; omega))
 obtain ⟨hc, hf⟩ := bcell b1
 have hz := b1.size
 simp only [World.size_alloc] at hz
 go_wp2_with fail
 refine bodyPost_ret (v := .agg #[.int .i64 z, .slice A1 zs.length zs.length]) (by simp [results, Tryz.results190, go_sem, hc]) rfl ?_
 have hm : Mod w.heap.size (w.heap.size + 3) w1 (((w1.setCell { block := w.heap.size + 1 + 1, off := 1 } (Value.slice A1 zs.length zs.length)).setCell { block := w.heap.size + 1, off := 0 } (Value.int IntKind.i64 z)).setCell { block := w.heap.size + 1, off := 1 } (Value.slice A1 zs.length zs.length)) :=
  ((Mod.set _ (by simp; omega) (by simp) _).trans (Mod.set _ (by simp) (by simp) _)).trans (Mod.set _ (by simp) (by simp) _)
 have hd : w.heap.size + 3 ≤ (((w.alloc (Obj.cells #[Value.int IntKind.i64 z, Value.slice A zs.length c] 206)).alloc (Obj.cells #[Value.int IntKind.i64 0, Value.slice none 0 0] 108)).alloc (Obj.cells #[Value.int IntKind.i64 z, Value.slice none 0 0] 108)).heap.size := by simp
 have hs := hm.size
 refine ⟨A1, rfl, (r1.keep hm (Or.inr hd)).wider (by simp; omega) hs (Nat.le_refl _), f1.keep r1 (by rw [IntK.iv_len]; exact Nat.le_refl _) hm (Or.inr hd), below_mod b0 hm (Nat.le_refl _) b0.size⟩

set_option maxHeartbeats 1000000 in
set_option maxRecDepth 100000 in
theorem size (z : Int) (A : Option Addr) (c L n : Nat) (w : World) (hL : L ≤ 1000000000000) (hl : n ≤ 9223372036854775807) :
  Calls Tryz.prog 186 #[.agg #[.int .i64 z, .slice A n c], .int .i64 L] w fun e w' => e = .returned (.int .i64 (IntK.leftOf L n)) ∧ Below w.heap.size w w' := by
 have SZ := Lib.hid (fun W => IntK.size A c L n W hL hl)
 unfold IntK.leftOf at *
 by_cases h0 : n ≤ L
 ·rw [if_pos h0] at *
  go_enter Tryz.func186, Tryz.ntmps186
  go_wp2_with fail
  refine (SZ.out _).mono ?_
  rintro e w1 ⟨rfl, rfl⟩
  go_wp2
  go_ret
  exact ⟨rfl, (Below.refl _ _).alloc (Nat.le_refl _) _⟩
 ·rw [if_neg h0] at *
  go_enter Tryz.func186, Tryz.ntmps186
  go_wp2_with fail
  refine (SZ.out _).mono ?_
  rintro e w1 ⟨rfl, rfl⟩
  go_wp2
  go_ret
  exact ⟨rfl, (Below.refl _ _).alloc (Nat.le_refl _) _⟩

set_option maxHeartbeats 1000000 in
set_option maxRecDepth 100000 in
theorem eq_same (lo hi lo' hi' : Nat) (z : Int) (A B : Option Addr) (c d : Nat) (zs : List Int) (w : World) (hA : Row lo hi w A (IntK.iv zs)) (hB : Row lo' hi' w B (IntK.iv zs)) (hl : zs.length ≤ 1000000000000) :
  Calls Tryz.prog 194 #[.agg #[.int .i64 z, .slice A zs.length c], .agg #[.int .i64 z, .slice B zs.length d]] w fun e w' => e = .returned (.bool true) ∧ Below w.heap.size w w' := by
 go_enter Tryz.func194, Tryz.ntmps194
 go_wp2_with fail
 have b0 : Below w.heap.size w ((w.alloc (Obj.cells #[Value.int IntKind.i64 z, Value.slice A zs.length c] 108)).alloc (Obj.cells #[Value.int IntKind.i64 z, Value.slice B zs.length d] 108)) := ((Below.refl _ _).alloc (Nat.le_refl _) _).alloc (by simp) _
 refine (IntK.eq_same lo hi lo' hi' A B c d zs _ (hA.below b0) (hB.below b0) hl).mono ?_
 rintro e w1 ⟨rfl, b1⟩
 go_wp2
 go_ret
 exact ⟨rfl, b0.trans (b1.mono b0.size)⟩

end LinK
end Go.Proofs.YtbbllkhmenpnlaaGreat

/-
  Linear expressions as data in memory, and slices of them: the laws' helpers.
-/
namespace Go.Proofs.YtbbllkhmenpnlaaGreat
open Go.RowKit
namespace Mem
open RowK

def ints : Rep (List Int) := Rep.slice Rep.int
def lin : Rep (Int × List Int) := Rep.prod Rep.int ints
def lins : Rep (List (Int × List Int)) := Rep.slice lin

def esOf (zs : List Int) : List (El Int) := zs.map fun z => ([], [Value.int .i64 z], z)
theorem cells_esOf : ∀ zs : List Int, cells (esOf zs) = IntK.iv zs
 | [] => rfl
 | z :: zs => by have := cells_esOf zs; simp [cells, esOf, IntK.iv] at this ⊢; simpa [Function.comp_def] using this
theorem fps_esOf : ∀ zs : List Int, fps (esOf zs) = []
 | [] => rfl
 | z :: zs => by have := fps_esOf zs; simp [fps, esOf] at this ⊢
theorem vals_esOf (zs : List Int) : vals (esOf zs) = zs := by simp [vals, esOf, Function.comp_def]
theorem int_cells {q : Bool} {w : World} : ∀ {es : List (El Int)}, (∀ e ∈ es, Rep.int.rep q w e.1 e.2.1 e.2.2) → cells es = IntK.iv (vals es) ∧ fps es = []
 | [], _ => ⟨rfl, rfl⟩
 | e :: es, h => by
  obtain ⟨h1, h2⟩ := int_cells (es := es) (fun e he => h e (List.mem_cons_of_mem _ he))
  obtain ⟨g1, g2⟩ := h e List.mem_cons_self
  unfold cells fps vals IntK.iv at *
  rw [List.flatMap_cons, List.flatMap_cons, h1, h2, g1, g2]
  simp

theorem ints_open {q : Bool} {w : World} {fp : List Nat} {cs : List Value} {zs : List Int} (h : ints.rep q w fp cs zs) :
  ∃ A c lo hi, cs = [.slice A zs.length c] ∧ zs.length ≤ c ∧ Row lo hi w A (IntK.iv zs) ∧ (q = true → Free w A zs.length) ∧ ∀ i, (lo ≤ i ∧ i < hi) ↔ i ∈ fp := by
 obtain ⟨A, c, rfl, hc, ⟨rfl, rfl⟩ | ⟨b, o, es, rfl, rfl, hne, rfl, hl, he, hr, hf⟩⟩ := h
 ·exact ⟨A, c, 0, 0, rfl, hc, row_nil _ _ _ _, fun _ => free_zero _ _, fun i => by simp⟩
 ·obtain ⟨h1, h2⟩ := int_cells he
  rw [h1] at hr hf
  refine ⟨_, c, b, b + 1, rfl, hc, hr, fun hq => by have := hf hq; rwa [IntK.iv_len] at this, fun i => ?_⟩
  rw [h2]
  simp
  omega
theorem ints_close {q : Bool} {lo hi c : Nat} {w : World} {A : Option Addr} {zs : List Int} (hr : Row lo hi w A (IntK.iv zs)) (hf : q = true → Free w A zs.length) (hc : zs.length ≤ c) :
  ∃ fp, ints.rep q w fp [.slice A zs.length c] zs ∧ fp.Nodup ∧ ∀ b ∈ fp, lo ≤ b ∧ b < hi := by
 by_cases h0 : zs = []
 ·subst h0
  exact ⟨[], ⟨A, c, rfl, hc, Or.inl ⟨rfl, rfl⟩⟩, List.nodup_nil, fun b h => by cases h⟩
 ·obtain ⟨b, o, rfl, ⟨h1, h2, h3⟩, h4⟩ := hr (fun e => h0 (by simpa [IntK.iv] using e))
  refine ⟨[b], ⟨_, c, rfl, hc, Or.inr ⟨b, o, esOf zs, rfl, (vals_esOf zs).symm, fun e => h0 (by simpa [esOf] using e), by rw [fps_esOf], by omega, fun e he => ?_, ?_, fun hq => ?_⟩⟩, by simp, fun i hi => by simp at hi; omega⟩
  ·obtain ⟨z, _, rfl⟩ := List.mem_map.1 he
   exact ⟨rfl, rfl⟩
  ·rw [cells_esOf]
   exact fun _ => ⟨b, o, rfl, ⟨Nat.le_refl _, Nat.lt_succ_self _, by omega⟩, h4⟩
  ·rw [cells_esOf, IntK.iv_len]
   exact hf hq
theorem lin_open {q : Bool} {w : World} {fp : List Nat} {cs : List Value} {p : Int × List Int} (h : lin.rep q w fp cs p) :
  ∃ A c lo hi, cs = [.int .i64 p.1, .slice A p.2.length c] ∧ p.2.length ≤ c ∧ Row lo hi w A (IntK.iv p.2) ∧ (q = true → Free w A p.2.length) ∧ ∀ i, (lo ≤ i ∧ i < hi) ↔ i ∈ fp := by
 obtain ⟨f1, f2, c1, c2, rfl, rfl, ⟨rfl, rfl⟩, h2⟩ := h
 obtain ⟨A, c, lo, hi, rfl, hc, hr, hf, hi'⟩ := ints_open h2
 exact ⟨A, c, lo, hi, rfl, hc, hr, hf, by simpa using hi'⟩
theorem lin_close {q : Bool} {lo hi c : Nat} {w : World} {A : Option Addr} {z : Int} {zs : List Int} (hr : Row lo hi w A (IntK.iv zs)) (hf : q = true → Free w A zs.length) (hc : zs.length ≤ c) :
  ∃ fp, lin.rep q w fp [.int .i64 z, .slice A zs.length c] (z, zs) ∧ fp.Nodup ∧ ∀ b ∈ fp, lo ≤ b ∧ b < hi := by
 obtain ⟨fp, h1, h2, h3⟩ := ints_close (q := q) hr hf hc
 exact ⟨fp, ⟨[], fp, _, _, rfl, rfl, ⟨rfl, rfl⟩, h1⟩, h2, h3⟩
def linsSize (xs : List (Int × List Int)) : Nat := xs.length + (xs.map fun x => x.2.length).sum
theorem linsSize_cons (x : Int × List Int) (xs : List (Int × List Int)) : linsSize (x :: xs) = linsSize xs + 1 + x.2.length := by simp [linsSize]; omega
theorem linsSize_mem : ∀ {xs : List (Int × List Int)} {x : Int × List Int}, x ∈ xs → x.2.length + xs.length ≤ linsSize xs
 | y :: ys, x, h => by
  rw [linsSize_cons, List.length_cons]
  rcases List.mem_cons.1 h with rfl | h
  ·unfold linsSize; omega
  ·have := linsSize_mem h
   omega

theorem copy1 (A : Option Addr) (c lo hi : Nat) (z : Int) (zs : List Int) (w : World) (hr : Row lo hi w A (IntK.iv zs)) (hl : zs.length ≤ 1000000000) :
  Calls Tryz.prog 190 #[.agg #[.int .i64 z, .slice A zs.length c]] w fun e w' => ∃ B, e = .returned (.agg #[.int .i64 z, .slice B zs.length zs.length]) ∧ New lin w (z, zs) w' [.int .i64 z, .slice B zs.length zs.length] ∧ Below w.heap.size w w' :=
 (LinK.copy lo hi z A c zs w hr hl).mono fun e w' ⟨B, he, r, f, hb⟩ => by
  obtain ⟨fp, h1, h2, h3⟩ := lin_close (q := true) (z := z) (c := zs.length) r (fun _ => f) (Nat.le_refl _)
  exact ⟨B, he, ⟨fp, h1, h2, fun b hb' => (h3 b hb').1⟩, hb⟩

theorem linInfo : (Tryz.prog.info? 108).map (fun i => (i.zero, i.size, i.bytes)) = some (some (.agg #[.int .i64 0, .slice none 0 0]), 2, 32) := by kernel_rfl
theorem run_mk (n : Nat) (hn : n ≤ 1000000000000) (u : World) : (Instr.makeSlice 96 (.int .i64 (n : Int)) (.int .i64 (n : Int))).run Tryz.prog u =
  .ok (.slice (some ⟨u.heap.size, 0, none⟩) n n) (u.alloc (.cells (madeCells #[.int .i64 0, .slice none 0 0] (n * 2)) 108)) := by
 obtain ⟨i0, hi, hz0, hz1, hz2⟩ := info_parts linInfo
 have h := run_make (P := Tryz.prog) u 96 108 i0 (.agg #[.int .i64 0, .slice none 0 0]) Tryz.underlying96 hi hz0 .i64 .i64 (n : Int) (n : Int) (by omega) (Int.le_refl _) (by rw [hz2]; omega) (by omega)
 simpa [hz1, Value.cells] using h
def zeroLin : El (Int × List Int) := ([], [.int .i64 0, .slice none 0 0], (0, []))
def zcells (m : Nat) : List Value := cells (List.replicate m zeroLin)
theorem zcells_succ (m : Nat) : zcells (m + 1) = .int .i64 0 :: .slice none 0 0 :: zcells m := by simp [zcells, cells, List.replicate_succ, zeroLin]
theorem made_z (n : Nat) : (madeCells #[.int .i64 0, .slice none 0 0] (n * 2)).toList = zcells n := by
 refine List.ext_getElem? fun j => ?_
 induction n generalizing j with
 | zero => simp [madeCells, zcells, cells]
 | succ n ih =>
  rw [zcells_succ]
  have key : ∀ i, (madeCells #[.int .i64 0, .slice none 0 0] ((n + 1) * 2)).toList[i + 2]? = (madeCells #[.int .i64 0, .slice none 0 0] (n * 2)).toList[i]? := fun i => by
   simp only [madeCells, Array.toList_map, List.getElem?_map, Array.toList_range]
   by_cases h : i < n * 2
   ·rw [List.getElem?_range (by omega), List.getElem?_range h]
    simp [Nat.add_mod_right]
   ·rw [List.getElem?_eq_none (by simp; omega), List.getElem?_eq_none (by simp; omega)]
  rcases j with _ | _ | j
  ·simp [madeCells]
  ·simp only [madeCells, Array.toList_map, List.getElem?_map, Array.toList_range]
   rw [List.getElem?_range (by omega)]
   rfl
  ·rw [key, ih]; rfl
theorem made_row (w : World) (n : Nat) : Row w.heap.size (w.heap.size + 1) (w.alloc (.cells (madeCells #[.int .i64 0, .slice none 0 0] (n * 2)) 108)) (some ⟨w.heap.size, 0, none⟩) (zcells n) ∧ Free (w.alloc (.cells (madeCells #[.int .i64 0, .slice none 0 0] (n * 2)) 108)) (some ⟨w.heap.size, 0, none⟩) (n * 2) := by
 have h := (Lvar.new w (madeCells #[.int .i64 0, .slice none 0 0] (n * 2)) 108).row
 rw [made_z, size_madeCells] at h
 exact h
theorem lin_len {q : Bool} {w : World} {es : List (El (Int × List Int))} (h : ∀ e ∈ es, lin.rep q w e.1 e.2.1 e.2.2) : (cells es).length = es.length * 2 := cells_len (n := 2) fun e he => lin.len (h e he)

def SoLins (w : World) (n : Nat) (xs : List (Int × List Int)) (wr : World) : Prop :=
 ∃ es : List (El (Int × List Int)), vals es = xs ∧ Row w.heap.size (w.heap.size + 1) wr (some ⟨w.heap.size, 0, none⟩) (cells es ++ zcells (n - xs.length)) ∧ Free wr (some ⟨w.heap.size, 0, none⟩) (n * 2) ∧ (∀ e ∈ es, lin.rep true wr e.1 e.2.1 e.2.2) ∧ (fps es).Nodup ∧ (∀ b ∈ fps es, w.heap.size < b) ∧ Below w.heap.size w wr
theorem soLins_zero (w : World) (n : Nat) : SoLins w n [] (w.alloc (.cells (madeCells #[.int .i64 0, .slice none 0 0] (n * 2)) 108)) :=
 ⟨[], rfl, by simpa [cells] using (made_row w n).1, (made_row w n).2, (fun e h => by cases h), List.nodup_nil, (fun e h => by cases h), (Below.refl _ _).alloc (Nat.le_refl _) _⟩
theorem soLins_place {w wr : World} {n : Nat} {xs : List (Int × List Int)} (h : SoLins w n xs wr) (hk : xs.length < n) :
  wr.cell? ⟨w.heap.size, xs.length * 2, none⟩ = some (.int .i64 0) ∧ wr.cell? ⟨w.heap.size, xs.length * 2 + 1, none⟩ = some (.slice none 0 0) ∧ wr.frozen? ⟨w.heap.size, xs.length * 2, none⟩ = false ∧ wr.frozen? ⟨w.heap.size, xs.length * 2 + 1, none⟩ = false ∧ w.heap.size < wr.heap.size := by
 obtain ⟨es, rfl, hr, hf, he, _⟩ := h
 have hl := lin_len he
 rw [vals_len] at *
 obtain ⟨m, hm⟩ : ∃ m, n - es.length = m + 1 := ⟨n - es.length - 1, by omega⟩
 rw [hm, zcells_succ] at hr
 obtain ⟨b, o, e, ⟨h1, h2, h3⟩, hc⟩ := hr (by simp)
 injection e with e; injection e with e1 e2; subst e1; subst e2
 have c0 := hc (es.length * 2) _ (by rw [List.getElem?_append_right (by omega), hl, Nat.sub_self]; rfl)
 have c1 := hc (es.length * 2 + 1) _ (by rw [List.getElem?_append_right (by omega), hl, show es.length * 2 + 1 - es.length * 2 = 1 by omega]; rfl)
 have f0 := hf (by omega) _ _ rfl (es.length * 2) (by omega)
 have f1 := hf (by omega) _ _ rfl (es.length * 2 + 1) (by omega)
 simp only [Nat.zero_add] at c0 c1 f0 f1
 exact ⟨c0, c1, f0, f1, by omega⟩
theorem soLins_snoc {w wr w1 : World} {n : Nat} {xs : List (Int × List Int)} {z : Int} {zs : List Int} {B : Option Addr} {c : Nat} (h : SoLins w n xs wr) (hk : xs.length < n) (hb : Below wr.heap.size wr w1) (hN : New lin wr (z, zs) w1 [.int .i64 z, .slice B zs.length c]) :
  SoLins w n (xs ++ [(z, zs)]) ((w1.setCell ⟨w.heap.size, xs.length * 2, none⟩ (.int .i64 z)).setCell ⟨w.heap.size, xs.length * 2 + 1, none⟩ (.slice B zs.length c)) := by
 have hwz := (soLins_place h hk).2.2.2.2
 obtain ⟨es, rfl, hr, hf, he, hn, hg, hB⟩ := h
 obtain ⟨fp, h1, h2, h3⟩ := hN
 have hl := lin_len he
 rw [vals_len] at *
 obtain ⟨m, hm⟩ : ∃ m, n - es.length = m + 1 := ⟨n - es.length - 1, by omega⟩
 have mm : ModF [w.heap.size] w1 ((w1.setCell ⟨w.heap.size, es.length * 2, none⟩ (.int .i64 z)).setCell ⟨w.heap.size, es.length * 2 + 1, none⟩ (.slice B zs.length c)) := (ModF.set _ (p := ⟨w.heap.size, es.length * 2, none⟩) (by simp) _).trans (ModF.set _ (p := ⟨w.heap.size, es.length * 2 + 1, none⟩) (by simp) _)
 rw [hm, zcells_succ] at hr
 have r1 := hr.below hb
 have r2 := r1.store (k := es.length * 2) (by simp; omega) (.int .i64 z)
 have r3 := r2.store (k := es.length * 2 + 1) (by simp; omega) (.slice B zs.length c)
 simp only [Nat.zero_add] at r2 r3
 refine ⟨es ++ [(fp, [.int .i64 z, .slice B zs.length c], (z, zs))], by rw [vals_append]; rfl, ?_, ?_, ?_, ?_, ?_, ?_⟩
 ·rw [List.length_append, vals_len, List.length_singleton, show n - (es.length + 1) = m by omega, cells_append]
  rw [List.set_append_right _ _ (by omega), hl, Nat.sub_self, List.set_cons_zero, List.set_append_right _ _ (by omega), hl, show es.length * 2 + 1 - es.length * 2 = 1 by omega, List.set_cons_succ, List.set_cons_zero] at r3
  simpa [cells] using r3
 ·exact ((hf.below (vs := cells es ++ .int .i64 0 :: .slice none 0 0 :: zcells m) hr (by
   have : (zcells m).length = m * 2 := by
    unfold zcells
    rw [cells_len (n := 2) (fun e he => by rw [(List.mem_replicate.1 he).2]; rfl), List.length_replicate]
   simp; omega) hb).set _ _).set _ _
 ·intro e h
  rcases List.mem_append.1 h with h | h
  ·exact Rep.keepF (Rep.below (he e h) hb) mm (fun b hb' => by have := hg b (mem_fps h hb'); simp; omega)
  ·rw [List.mem_singleton.1 h]
   exact Rep.keepF h1 mm (fun b hb' => by have := h3 b hb'; simp; omega)
 ·rw [fps_append]
  refine List.nodup_append.2 ⟨hn, by simpa [fps] using h2, fun a ha b hb' e => ?_⟩
  subst e
  obtain ⟨e, h5, h6⟩ := List.mem_flatMap.1 ha
  have := lin.lt (he e h5) a h6
  have := h3 a (by simpa [fps] using hb')
  omega
 ·intro b hb'
  rw [fps_append] at hb'
  rcases List.mem_append.1 hb' with h | h
  ·exact hg b h
  ·have := h3 b (by simpa [fps] using h)
   omega
 ·exact ((hB.trans (hb.mono hB.size)).setCell (Nat.le_refl _) _).setCell (Nat.le_refl _) _
theorem soLins_done {w wr : World} {xs : List (Int × List Int)} (h : SoLins w xs.length xs wr) : New lins w xs wr [.slice (some ⟨w.heap.size, 0, none⟩) xs.length xs.length] ∧ Below w.heap.size w wr := by
 obtain ⟨es, rfl, hr, hf, he, hn, hg, hB⟩ := h
 refine ⟨?_, hB⟩
 by_cases h0 : es = []
 ·subst h0
  exact ⟨[], ⟨_, _, rfl, Nat.le_refl _, Or.inl ⟨rfl, rfl⟩⟩, List.nodup_nil, fun b h => by cases h⟩
 ·rw [Nat.sub_self, show zcells 0 = [] from rfl, List.append_nil] at hr
  have hl := lin_len he
  have hne : cells es ≠ [] := fun e => by
   rw [e] at hl
   have : 0 < es.length := List.length_pos_iff.2 h0
   simp at hl
   omega
  obtain ⟨b, o, e, ⟨h1, h2, h3⟩, hc⟩ := hr hne
  refine ⟨w.heap.size :: fps es, ⟨_, _, rfl, Nat.le_refl _, Or.inr ⟨w.heap.size, 0, es, rfl, rfl, h0, rfl, by omega, he, hr, fun _ => by rw [hl, ← vals_len]; exact hf⟩⟩, List.nodup_cons.2 ⟨fun h => by have := hg _ h; omega, hn⟩, fun b hb => ?_⟩
  rcases List.mem_cons.1 hb with rfl | hb
  ·exact Nat.le_refl _
  ·have := hg b hb; omega

theorem lins_at {q : Bool} {w : World} {fp : List Nat} {A : Option Addr} {c : Nat} {xs : List (Int × List Int)} (h : lins.rep q w fp [.slice A xs.length c] xs) {k : Nat} (hk : k < xs.length) :
  ∃ b o B d lo hi, A = some ⟨b, o, none⟩ ∧ b < w.heap.size ∧ w.cell? ⟨b, o + k * 2, none⟩ = some (.int .i64 xs[k].1) ∧ w.cell? ⟨b, o + k * 2 + 1, none⟩ = some (.slice B xs[k].2.length d) ∧ xs[k].2.length ≤ d ∧ Row lo hi w B (IntK.iv xs[k].2) := by
 obtain ⟨A', c', e, hc, ⟨rfl, rfl⟩ | ⟨b, o, es, rfl, rfl, hne, rfl, hl, he, hr, hf⟩⟩ := h
 ·simp at hk
 ·injection e with e _
  injection e with e1 e2 e3
  subst e1; subst e3
  have hk' : k < es.length := by rwa [vals_len] at hk
  have hx : (vals es)[k] = es[k].2.2 := by simp [vals]
  have hm := List.getElem_mem hk'
  obtain ⟨B, d, lo, hi, hcs, hd, hrow, _, _⟩ := lin_open (he _ hm)
  have hlen := fun e h => lin.len (he e h)
  have c0 := cells_at (n := 2) hlen hk' (i := 0) (by omega)
  have c1 := cells_at (n := 2) hlen hk' (i := 1) (by omega)
  rw [hcs] at c0 c1
  obtain ⟨b', o', e, h1, h2⟩ := hr (fun e => by rw [e] at c0; simp at c0)
  injection e with e; injection e with e1 e2; subst e1; subst e2
  have g0 := h2 (k * 2 + 0) _ c0
  have g1 := h2 (k * 2 + 1) _ c1
  refine ⟨b, o, B, d, lo, hi, rfl, hl, ?_, ?_, ?_, ?_⟩
  ·rw [hx]; simpa using g0
  ·rw [hx]; simpa [Nat.add_assoc] using g1
  ·rw [hx]; exact hd
  ·rw [hx]; exact hrow

def CopiedLins (w : World) (xs : List (Int × List Int)) (e : Ending) (w' : World) : Prop := ∃ A, e = .returned (.slice A xs.length xs.length) ∧ New lins w xs w' [.slice A xs.length xs.length] ∧ Below w.heap.size w w'
set_option maxHeartbeats 1000000 in
set_option maxRecDepth 100000 in
theorem copyS (q : Bool) (fp : List Nat) (A : Option Addr) (c : Nat) (xs : List (Int × List Int)) (w : World) (hA : lins.rep q w fp [.slice A xs.length c] xs) (hl : linsSize xs ≤ 1000000000) :
  Calls Tryz.prog 148 #[.slice A xs.length c] w (CopiedLins w xs) := by
 have hxl : xs.length ≤ 1000000000 := by unfold linsSize at hl; omega
 have hmk := run_mk xs.length (by omega)
 have HZ := Lib.hid (soLins_zero w xs.length)
 have HSZ := Lib.hid (fun x (h : x ∈ xs) => linsSize_mem h)
 have HL := Lib.hid hl
 clear hl
 go_enter Tryz.func148, Tryz.ntmps148
 go_wp2
 go_loopw [4] (fun i wr => ∃ k : Nat, k ≤ xs.length ∧ i = .int .i64 k ∧ SoLins w xs.length (xs.take k) wr) (fun i _ => xs.length - (intOf i).toNat)
 case atStart => exact ⟨0, Nat.zero_le _, rfl, HZ.out⟩
 case round =>
  obtain ⟨k, hk, rfl, hS⟩ := hrel
  by_cases hlt : k < xs.length
  ·have hB : Below w.heap.size w wr := by obtain ⟨_, _, _, _, _, _, _, h⟩ := hS; exact h
   obtain ⟨b, o, B, d, lo, hi, rfl, hb, c0, c1, hd, hrow⟩ := lins_at (Rep.below hA hB) hlt
   have htl : (xs.take k).length = k := by rw [List.length_take]; omega
   have hS1 := soLins_place hS (by rw [htl]; exact hlt)
   rw [htl] at hS1
   obtain ⟨p0, p1, q0, q1, hz⟩ := hS1
   have hx := HSZ.out _ (List.getElem_mem hlt)
   have htake : xs.take (k + 1) = xs.take k ++ [xs[k]] := by rw [List.take_add_one, List.getElem?_eq_getElem hlt]; rfl
   have HT := Lib.hid htake
   have HS := Lib.hid hS
   have HTL := Lib.hid htl
   have hs9 : xs[k].2.length ≤ 1000000000 := by have := HL.out; omega
   clear hS htl htake hx hB
   generalize xs[k] = x at *
   obtain ⟨z, zs⟩ := x
   simp only at c0 c1 hrow hs9 hd
   have CP := Lib.hid (copy1 B d lo hi z zs wr hrow hs9)
   clear hrow
   go_wp2_with fail
   refine (Calls.mono CP.out) ?_
   rintro e w1 ⟨G, rfl, hN, hb1⟩
   have hS2 := soLins_snoc HS.out (by rw [HTL.out]; exact hlt) hb1 hN
   rw [HTL.out, ← HT.out] at hS2
   have HS2 := Lib.hid hS2
   have p0' := (hb1.cell (p := ⟨w.heap.size, k * 2, none⟩) hz).trans p0
   have p1' := (hb1.cell (p := ⟨w.heap.size, k * 2 + 1, none⟩) hz).trans p1
   have q0' := (hb1.frozen (p := ⟨w.heap.size, k * 2, none⟩) hz).trans q0
   have q1' := (hb1.frozen (p := ⟨w.heap.size, k * 2 + 1, none⟩) hz).trans q1
   clear hS2 hN hb1 p0 p1 q0 q1 c0 c1
   go_wp2
   go_roundw
   case rel => exact ⟨k + 1, by omega, by go_num, HS2.out⟩
   case measure => simp [intOf]; omega
  ·obtain rfl : k = xs.length := by omega
   rw [List.take_length] at hS
   obtain ⟨h1, h2⟩ := soLins_done hS
   have HN := Lib.hid h1
   have HB := Lib.hid h2
   clear h1 h2 hS
   go_wp2
   go_ret
   exact ⟨_, rfl, HN.out, HB.out⟩
end Mem
end Go.Proofs.YtbbllkhmenpnlaaGreat

/-
  An append of a whole slice to a row of the call's own, whatever the slice (nil and empty too).
-/
namespace Go.Proofs.YtbbllkhmenpnlaaGreat
open Go.RowKit
namespace RowK

theorem run_append_none {P : Program} {w : World} {base n size : Nat} (t ty e : TypeId) (i : TypeInfo) (ht : P.underlying t = some (.slice e)) (hi : P.info? e = some i) (c : Nat)
  {v : Value} {xs : List Value} (hown : w.ownsRow base e size v n xs) : (Builtin.append_ #[t, t] ty #[v, .slice none 0 c]).run P w = .ok v w := by
 rcases hown.2 with ⟨rfl, rfl⟩ | ⟨g, cap, cur, rfl, _, _, hnc, _⟩
 ·simp [Builtin.append_, run_underlying ht, sizeOf, typeInfo, hi, Builtin.lenOf, Builtin.firstCells]
 ·simp [Builtin.append_, run_underlying ht, sizeOf, typeInfo, hi, Builtin.lenOf, Builtin.firstCells, hnc, storeCells]

theorem run_append_row {P : Program} {w : World} {lo hi : Nat} (t ty e : TypeId) (i : TypeInfo) (z : Value) (size bytes base : Nat) (ht : P.underlying t = some (.slice e)) (hi0 : P.info? e = some i) (hz : i.zero = some z)
  (hsize : i.size = size) (hby : i.bytes = bytes) (hzs : z.cells.size = size) (hsz : 0 < size) (v : Value) (n : Nat) (xs : List Value) (hown : w.ownsRow base e size v n xs)
  (A : Option Addr) (m c : Nat) (news : List Value) (hl : news.length = m * size) (hsrc : Row lo hi w A news) (h1 : ∀ u ∈ news, u.oneCell' = true)
  (h63 : n + m ≤ maxLen) (hbytes : (n + m) * bytes ≤ 140737488355328) (hbase : base ≤ w.heap.size) :
  ∃ v' w', (Builtin.append_ #[t, t] ty #[v, .slice A m c]).run P w = .ok v' w' ∧ w'.ownsRow base e size v' (n + m) (xs ++ news) ∧ w.grownBy w' v.ownBlock := by
 cases A with
 | none =>
  have hn : news = [] := by
   rcases Decidable.em (news = []) with h | h
   ·exact h
   ·obtain ⟨b, o, e, _⟩ := hsrc h; cases e
  subst hn
  have hm : m = 0 := by
   rcases Nat.eq_zero_or_pos m with h | h
   ·exact h
   ·have := Nat.mul_pos h hsz; simp at hl; omega
  subst hm
  exact ⟨v, w, run_append_none t ty e i ht hi0 c hown, by simpa using hown, ⟨rfl, rfl, rfl, Nat.le_refl _, fun _ _ _ => rfl⟩⟩
 | some ad =>
  obtain ⟨v', w', h2, h3, h4, _⟩ := run_append_own w base t ty e i z size bytes ht hi0 hz hsize hby hzs hsz v n xs hown ad m c news hl (fun j u hu => by
   obtain ⟨b, o, e, _, hc⟩ := hsrc (fun e => by rw [e] at hu; simp at hu)
   injection e with e; subst e
   rw [show (⟨b, o, none⟩ : Addr).add j = ⟨b, o + j, none⟩ by unfold Addr.add; split <;> simp_all]
   exact hc j u hu) h1 h63 hbytes hbase
  exact ⟨v', w', h2, h3, h4⟩

theorem step_append_row {P : Program} {ops : Array Oper} {w : World} {E : Prop} {o : Oper} {a : Act} {K : Act → World → Prop} {Q : Exit → Act → World → Prop} (hgd : o.guard = none) (s x : Operand) (t : TypeId)
  (ho : o.op = .call { callee := .builtin .append, args := #[s, x], argTypes := #[t, t] }) {lo hi : Nat}
  (e : TypeId) (i : TypeInfo) (z : Value) (size bytes base : Nat) (ht : P.underlying t = some (.slice e)) (hi0 : P.info? e = some i) (hz : i.zero = some z)
  (hsize : i.size = size) (hby : i.bytes = bytes) (hzs : z.cells.size = size) (hsz : 0 < size) (v : Value) (n : Nat) (xs : List Value) (hs : a.eval s = v) (hown : w.ownsRow base e size v n xs)
  (A : Option Addr) (m c : Nat) (news : List Value) (hx : a.eval x = .slice A m c) (hl : news.length = m * size) (hsrc : Row lo hi w A news) (h1 : ∀ u ∈ news, u.oneCell' = true)
  (h63 : n + m ≤ maxLen) (hbytes : (n + m) * bytes ≤ 140737488355328) (hbase : base ≤ w.heap.size)
  (h : ∀ v' w', w'.ownsRow base e size v' (n + m) (xs ++ news) → w.grownBy w' v.ownBlock → K (a.put o.dst v') w') :
  if Region.wanted o (yielded ops a.tmps) = true then Oper.wp P o a w K Q else E := by
 have hw : Region.wanted o (yielded ops a.tmps) = true := by simp [Region.wanted, hgd]
 rw [if_pos hw]
 obtain ⟨v', w', hr, h2, h3⟩ := run_append_row (P := P) t o.type e i z size bytes base ht hi0 hz hsize hby hzs hsz v n xs hown A m c news hl hsrc h1 h63 hbytes hbase
 unfold Oper.wp execOp
 simp only [ho, resolve, invoke, builtin, Sem.run_bind, Sem.run_pure, Result.andThen_ok, List.map_toArray, List.map_cons, List.map_nil, hs, hx, hr]
 exact h v' w' h2 h3
end RowK
end Go.Proofs.YtbbllkhmenpnlaaGreat

/-
  An append to a row of the call's own: the new row lies in the old block, or in a new one.
-/
namespace Go.Proofs.YtbbllkhmenpnlaaGreat
open Go.RowKit
namespace RowK

theorem run_append_where {P : Program} {w : World} (t ty e : TypeId) (i : TypeInfo) (z : Value) (size bytes base : Nat) (ht : P.underlying t = some (.slice e)) (hi0 : P.info? e = some i) (hz : i.zero = some z)
  (hsize : i.size = size) (hby : i.bytes = bytes) (hzs : z.cells.size = size) (hsz : 0 < size) (v : Value) (n : Nat) (xs : List Value) (hown : w.ownsRow base e size v n xs)
  (ad : Addr) (m c : Nat) (news : List Value) (hl : news.length = m * size) (hnews : ∀ j u, news[j]? = some u → w.cell? (ad.add j) = some u) (h1 : ∀ u ∈ news, u.oneCell' = true)
  (h63 : n + m ≤ maxLen) (hbytes : (n + m) * bytes ≤ 140737488355328) (hbase : base ≤ w.heap.size) :
  ∃ v' w', (Builtin.append_ #[t, t] ty #[v, .slice (some ad) m c]).run P w = .ok v' w' ∧ w'.ownsRow base e size v' (n + m) (xs ++ news) ∧ w.grownBy w' v.ownBlock ∧ (v'.ownBlock = v.ownBlock ∨ ∀ g, v'.ownBlock = some g → w.heap.size ≤ g) := by
 obtain ⟨v', w', hr, h2, h3, _⟩ := run_append_own (P := P) w base t ty e i z size bytes ht hi0 hz hsize hby hzs hsz v n xs hown ad m c news hl hnews h1 h63 hbytes hbase
 refine ⟨v', w', hr, h2, h3, ?_⟩
 have hlen := hown.1
 rcases hown.2 with ⟨rfl, rfl⟩ | ⟨g, cap, cur, rfl, hb, hg, hn, hm, hs, htake⟩
 ·obtain ⟨v2, w2, hr2, k2, _⟩ := run_append_own (P := P) w w.heap.size t ty e i z size bytes ht hi0 hz hsize hby hzs hsz (.slice none 0 0) 0 [] (World.ownsRow_nil w _ e size) ad m c news hl hnews h1 h63 hbytes (Nat.le_refl _)
  rw [hr] at hr2
  injection hr2 with e1 e2
  subst e1; subst e2
  exact Or.inr fun g hg => (k2.lt g hg).1
 ·by_cases hroom : n + m ≤ cap
  ·left
   have hrun := run_append_room_cells (P := P) w t ty e i ht hi0 g 0 n cap ad m c news (by rw [hsize]; exact hl) hnews h1 hroom (fun j hj => by
    rw [Nat.zero_add, cell_of_row w g _ cur e (0, 0) hg]
    have : n * i.size + j < cur.size := by
     rw [hs, hsize]
     have h5 : (n + m) * size ≤ cap * size := Nat.mul_le_mul_right _ hroom
     rw [Nat.add_mul] at h5
     omega
    simp [this]) (fun j hj => by
    unfold World.frozen?
    rw [hg]
    simp)
   rw [hr] at hrun
   injection hrun with e1 _
   rw [e1]
   rfl
  ·right
   obtain ⟨v2, w2, hr2, k2, _⟩ := run_append_arg_grows (P := P) w t ty e i z size bytes ht hi0 hz hsize hby hzs hsz ⟨g, 0, none⟩ n cap xs (by rw [hlen]) (fun j u hu => by
    rw [show (⟨g, 0, none⟩ : Addr).add j = ⟨g, j, none⟩ by unfold Addr.add; split <;> simp_all]
    have hjl := (List.getElem?_eq_some_iff.1 hu).1
    rw [hown.cellAt j (by omega)]
    exact hu) ad m c news hl hnews (by omega) h63 hbytes
   rw [hr] at hr2
   injection hr2 with e1 e2
   subst e1; subst e2
   exact fun g hg => (k2.lt g hg).1

theorem step_append_where {P : Program} {ops : Array Oper} {w : World} {E : Prop} {o : Oper} {a : Act} {K : Act → World → Prop} {Q : Exit → Act → World → Prop} (hgd : o.guard = none) (s x : Operand) (t : TypeId)
  (ho : o.op = .call { callee := .builtin .append, args := #[s, x], argTypes := #[t, t] })
  (e : TypeId) (i : TypeInfo) (z : Value) (size bytes base : Nat) (ht : P.underlying t = some (.slice e)) (hi0 : P.info? e = some i) (hz : i.zero = some z)
  (hsize : i.size = size) (hby : i.bytes = bytes) (hzs : z.cells.size = size) (hsz : 0 < size) (v : Value) (n : Nat) (xs : List Value) (hs : a.eval s = v) (hown : w.ownsRow base e size v n xs)
  (ad : Addr) (m c : Nat) (news : List Value) (hx : a.eval x = .slice (some ad) m c) (hl : news.length = m * size) (hnews : ∀ j u, news[j]? = some u → w.cell? (ad.add j) = some u) (h1 : ∀ u ∈ news, u.oneCell' = true)
  (h63 : n + m ≤ maxLen) (hbytes : (n + m) * bytes ≤ 140737488355328) (hbase : base ≤ w.heap.size)
  (h : ∀ v' w', w'.ownsRow base e size v' (n + m) (xs ++ news) → w.grownBy w' v.ownBlock → (v'.ownBlock = v.ownBlock ∨ ∀ g, v'.ownBlock = some g → w.heap.size ≤ g) → K (a.put o.dst v') w') :
  if Region.wanted o (yielded ops a.tmps) = true then Oper.wp P o a w K Q else E := by
 have hw : Region.wanted o (yielded ops a.tmps) = true := by simp [Region.wanted, hgd]
 rw [if_pos hw]
 obtain ⟨v', w', hr, h2, h3, h4⟩ := run_append_where (P := P) t o.type e i z size bytes base ht hi0 hz hsize hby hzs hsz v n xs hown ad m c news hl hnews h1 h63 hbytes hbase
 unfold Oper.wp execOp
 simp only [ho, resolve, invoke, builtin, Sem.run_bind, Sem.run_pure, Result.andThen_ok, List.map_toArray, List.map_cons, List.map_nil, hs, hx, hr]
 exact h v' w' h2 h3 h4
end RowK
end Go.Proofs.YtbbllkhmenpnlaaGreat

/-
  A slice that a call makes by append, whose elements may share memory with others: its own row is apart from its elements' blocks; the elements are only read.
-/
namespace Go.Proofs.YtbbllkhmenpnlaaGreat
open Go.RowKit
namespace RowK
section
variable {P : Program} {w : World}
end
end RowK
namespace Mem
open RowK
variable {α : Type}
def Listed (r : Rep α) (e : TypeId) (base : Nat) (w : World) (v : Value) (xs : List α) : Prop :=
 ∃ es : List (El α), vals es = xs ∧ w.ownsRow base e r.n v xs.length (cells es) ∧ (∀ x ∈ es, r.rep false w x.1 x.2.1 x.2.2) ∧ ∀ b ∈ fps es, v.ownBlock ≠ some b
section
variable {r : Rep α} {e : TypeId} {base : Nat} {w w' : World} {v : Value} {xs : List α}
theorem Listed.nil (r : Rep α) (e : TypeId) (base : Nat) (w : World) : Listed r e base w (.slice none 0 0) [] :=
 ⟨[], rfl, World.ownsRow_nil w base _ _, (fun _ h => by cases h), (fun _ h => by cases h)⟩
theorem Listed.empty (r : Rep α) (e : TypeId) (w : World) : Listed r e w.heap.size (w.alloc (.cells #[] e)) (.slice (some ⟨w.heap.size, 0, none⟩) 0 0) [] :=
 ⟨[], rfl, ⟨by simp [cells], Or.inr ⟨_, 0, #[], rfl, Nat.le_refl _, heap_alloc_new _ _, by simp, by simp, by simp, by simp [cells]⟩⟩, (fun _ h => by cases h), (fun _ h => by cases h)⟩
theorem Listed.below (h : Listed r e base w v xs) (hb : Below w.heap.size w w') : Listed r e base w' v xs := by
 obtain ⟨es, h1, h2, h3, h4⟩ := h
 refine ⟨es, h1, h2.kept (StrK.only_below hb none) ?_, fun x hx => Rep.below (h3 x hx) hb, h4⟩
 by_cases hv : v.ownBlock = none
 ·exact Or.inl hv
 ·exact Or.inr hv
theorem Listed.snoc {w5 : World} {v5 : Value} {es : List (El α)} {fp : List Nat} {cs : List Value} {x : α} (hv : vals es = xs)
  (he : ∀ y ∈ es, r.rep false w y.1 y.2.1 y.2.2) (hd : ∀ b ∈ fps es, v.ownBlock ≠ some b) (hx : r.rep false w fp cs x) (hxd : ∀ b ∈ fp, v.ownBlock ≠ some b)
  (h5 : w5.ownsRow base e r.n v5 (xs.length + 1) (cells es ++ cs)) (hg : w.grownBy w5 v.ownBlock) (hw : v5.ownBlock = v.ownBlock ∨ ∀ g, v5.ownBlock = some g → w.heap.size ≤ g) :
  Listed r e base w5 v5 (xs ++ [x]) := by
 have hne : ∀ b ∈ fps es ++ fp, b < w.heap.size ∧ v.ownBlock ≠ some b := fun b hb => by
  rcases List.mem_append.1 hb with hb | hb
  ·obtain ⟨y, h6, h7⟩ := List.mem_flatMap.1 hb
   exact ⟨r.lt (he y h6) b h7, hd b hb⟩
  ·exact ⟨r.lt hx b hb, hxd b hb⟩
 refine ⟨es ++ [(fp, cs, x)], by rw [vals_append, hv]; rfl, ?_, ?_, ?_⟩
 ·rw [List.length_append, List.length_singleton, cells_append]
  simpa [cells] using h5
 ·intro y h
  rcases List.mem_append.1 h with h | h
  ·exact r.same (he y h) hg.size (fun b hb => hg.block b (r.lt (he y h) b hb) (fun e' => (hne b (List.mem_append_left _ (mem_fps h hb))).2 e'.symm))
  ·rw [List.mem_singleton.1 h]
   exact r.same hx hg.size (fun b hb => hg.block b (r.lt hx b hb) (fun e' => (hne b (List.mem_append_right _ hb)).2 e'.symm))
 ·intro b hb
  rw [fps_append] at hb
  have h6 := hne b (by
   rcases List.mem_append.1 hb with h | h
   ·exact List.mem_append_left _ h
   ·exact List.mem_append_right _ (by simpa [fps] using h))
  intro e
  rcases hw with hw | hw
  ·exact h6.2 (by rw [← hw]; exact e)
  ·have := hw b e
   omega
theorem Listed.rep (h : Listed r e base w v xs) (hn : 0 < r.n) : ∃ A c fp, v = .slice A xs.length c ∧ (Rep.slice r).rep false w fp [.slice A xs.length c] xs := by
 obtain ⟨es, rfl, h2, h3, h4⟩ := h
 obtain ⟨A, c, rfl, hr, hf, hc, hb⟩ := RowK.of_own h2
 by_cases h0 : es = []
 ·subst h0
  exact ⟨A, c, [], rfl, A, c, rfl, hc, Or.inl ⟨rfl, rfl⟩⟩
 ·have hl := cells_len (n := r.n) (es := es) (fun x hx => r.len (h3 x hx))
  have hne : cells es ≠ [] := fun e => by
   rw [e] at hl
   have h7 : 0 < es.length := List.length_pos_iff.2 h0
   have := Nat.mul_pos h7 hn
   simp at hl
   omega
  obtain ⟨b, o, rfl, ⟨k1, k2, k3⟩, hcell⟩ := hr hne
  exact ⟨_, c, b :: fps es, rfl, _, c, rfl, hc, Or.inr ⟨b, o, es, rfl, rfl, h0, rfl, k2, h3, fun _ => ⟨b, o, rfl, ⟨Nat.le_refl _, Nat.lt_succ_self _, by omega⟩, hcell⟩, fun h => by cases h⟩⟩
end
theorem slice_at {r : Rep α} {q : Bool} {w : World} {fp : List Nat} {A : Option Addr} {n c : Nat} {xs : List α} (h : (Rep.slice r).rep q w fp [.slice A n c] xs) {k : Nat} (hk : k < xs.length) :
  ∃ b o f cs, A = some ⟨b, o, none⟩ ∧ b < w.heap.size ∧ r.rep q w f cs xs[k] ∧ (∀ i, i < r.n → w.cell? ⟨b, o + k * r.n + i, none⟩ = cs[i]?) ∧ ∀ x ∈ f, x ∈ fp := by
 obtain ⟨A', c', e, hc, ⟨rfl, rfl⟩ | ⟨b, o, es, rfl, rfl, hne, rfl, hl, he, hr, hf⟩⟩ := h
 ·simp at hk
 ·injection e with e _
  injection e with e1 e2 e3
  subst e1
  rw [vals_len] at hk
  have hlen := fun x hx => r.len (he x hx)
  have hcl := cells_len (n := r.n) (es := es) hlen
  refine ⟨b, o, es[k].1, es[k].2.1, rfl, hl, ?_, fun i hi => ?_, fun x hx => List.mem_cons_of_mem _ (mem_fps (List.getElem_mem hk) hx)⟩
  ·have := he _ (List.getElem_mem hk)
   simpa [vals] using this
  ·have hin : k * r.n + i < (cells es).length := by
    rw [hcl]
    have := Nat.mul_le_mul_right r.n (Nat.succ_le_of_lt hk)
    rw [Nat.succ_mul] at this
    omega
   obtain ⟨b', o', e', _, h2⟩ := hr (fun h0 => by rw [h0] at hin; simp at hin)
   injection e' with e'; injection e' with e1 e2; subst e1; subst e2
   have h3 := h2 (k * r.n + i) _ (List.getElem?_eq_getElem hin)
   rw [Nat.add_assoc, h3, ← List.getElem?_eq_getElem hin]
   exact cells_at hlen hk hi
end Mem
end Go.Proofs.YtbbllkhmenpnlaaGreat

/-
  A slice that a call has made, element by element, whatever its elements: by append ('Owned'), or by make and stores ('Filling').
-/
namespace Go.Proofs.YtbbllkhmenpnlaaGreat
open Go.RowKit
namespace Mem
open RowK
variable {α : Type}

theorem lvar_grown {w w' : World} {b : Nat} {cs : Array Value} {row : Option Nat} (h : Lvar w b cs) (hg : w.grownBy w' row) (hr : row ≠ some b) : Lvar w' b cs := by
 have hl := h.lt
 obtain ⟨T, h⟩ := h
 exact ⟨T, by rw [hg.block b hl (fun e => hr e.symm)]; exact h⟩

def Owned (r : Rep α) (e : TypeId) (ok : Nat → Prop) (w : World) (v : Value) (xs : List α) : Prop :=
 ∃ es : List (El α), vals es = xs ∧ w.ownsRow 0 e r.n v xs.length (cells es) ∧ (∀ x ∈ es, r.rep true w x.1 x.2.1 x.2.2) ∧ (fps es).Nodup ∧ (∀ g, v.ownBlock = some g → ok g) ∧ ∀ b ∈ fps es, ok b ∧ v.ownBlock ≠ some b

section
variable {r : Rep α} {e : TypeId} {ok ok' : Nat → Prop} {w w' : World} {v : Value} {xs : List α}
theorem Owned.nil (r : Rep α) (e : TypeId) (ok : Nat → Prop) (w : World) : Owned r e ok w (.slice none 0 0) [] :=
 ⟨[], rfl, World.ownsRow_nil w 0 _ _, (fun _ h => by cases h), List.nodup_nil, (fun _ h => by cases h), (fun _ h => by cases h)⟩
theorem Owned.grown {row : Option Nat} (h : Owned r e ok w v xs) (hg : w.grownBy w' row) (hr : ∀ b, row = some b → ¬ ok b) : Owned r e ok w' v xs := by
 obtain ⟨es, h1, h2, h3, h4, h5, h6⟩ := h
 refine ⟨es, h1, h2.kept hg ?_, fun x hx => r.same (h3 x hx) hg.size (fun b hb => hg.block b (r.lt (h3 x hx) b hb) (fun e' => hr b e'.symm (h6 b (mem_fps hx hb)).1)), h4, h5, h6⟩
 by_cases hv : v.ownBlock = none
 ·exact Or.inl hv
 ·refine Or.inr fun e' => ?_
  cases hrw : v.ownBlock with
  | none => exact hv hrw
  | some g => exact hr g (by rw [← e', hrw]) (h5 g hrw)
theorem Owned.below (h : Owned r e ok w v xs) (hb : Below w.heap.size w w') : Owned r e ok w' v xs := h.grown (row := none) (StrK.only_below hb none) (fun _ e => by cases e)
theorem Owned.set (h : Owned r e ok w v xs) {b : Nat} (hb : ¬ ok b) (o : Nat) (u : Value) : Owned r e ok (w.setCell ⟨b, o, none⟩ u) v xs := h.grown (StrK.only_set w b o u) (fun r e => by injection e with e; subst e; exact hb)
theorem Owned.to (h : Owned r e ok w v xs) (hk : ∀ b, b < w.heap.size → ok b → ok' b) : Owned r e ok' w v xs := by
 obtain ⟨es, h1, h2, h3, h4, h5, h6⟩ := h
 refine ⟨es, h1, h2, h3, h4, fun g hg => hk g (h2.lt g hg).2 (h5 g hg), fun b hb => ⟨hk b ?_ (h6 b hb).1, (h6 b hb).2⟩⟩
 obtain ⟨x, hx, hb'⟩ := List.mem_flatMap.1 hb
 exact r.lt (h3 x hx) b hb'
theorem Owned.snoc {m : Nat} {w4 w5 : World} {v5 : Value} {es : List (El α)} {fp : List Nat} {cs : List Value} {x : α} (hv : vals es = xs)
  (he : ∀ y ∈ es, r.rep true w4 y.1 y.2.1 y.2.2) (hlt : ∀ b ∈ fps es, b < m) (hn : (fps es).Nodup) (hd : ∀ b ∈ fps es, ok b ∧ v.ownBlock ≠ some b) (hown : ∀ g, v.ownBlock = some g → ok g ∧ g < m)
  (hx : r.rep true w4 fp cs x) (hxn : fp.Nodup) (hxm : ∀ b ∈ fp, m ≤ b) (hok : ∀ b, m ≤ b → ok b)
  (h5 : w5.ownsRow 0 e r.n v5 (xs.length + 1) (cells es ++ cs)) (hg : w4.grownBy w5 v.ownBlock) (hw : v5.ownBlock = v.ownBlock ∨ ∀ g, v5.ownBlock = some g → w4.heap.size ≤ g) (hm : m ≤ w4.heap.size) :
  Owned r e ok w5 v5 (xs ++ [x]) := by
 have hne : ∀ b ∈ fps es ++ fp, b < w4.heap.size ∧ ok b ∧ v.ownBlock ≠ some b := fun b hb => by
  rcases List.mem_append.1 hb with hb | hb
  ·obtain ⟨y, h6, h7⟩ := List.mem_flatMap.1 hb
   exact ⟨r.lt (he y h6) b h7, hd b hb⟩
  ·have h6 := hxm b hb
   exact ⟨r.lt hx b hb, hok b h6, fun e => by have := (hown b e).2; omega⟩
 refine ⟨es ++ [(fp, cs, x)], by rw [vals_append, hv]; rfl, ?_, ?_, ?_, ?_, ?_⟩
 ·rw [List.length_append, List.length_singleton, cells_append]
  simpa [cells] using h5
 ·intro y h
  rcases List.mem_append.1 h with h | h
  ·exact r.same (he y h) hg.size (fun b hb => hg.block b (r.lt (he y h) b hb) (fun e' => (hne b (List.mem_append_left _ (mem_fps h hb))).2.2 e'.symm))
  ·rw [List.mem_singleton.1 h]
   exact r.same hx hg.size (fun b hb => hg.block b (r.lt hx b hb) (fun e' => (hne b (List.mem_append_right _ hb)).2.2 e'.symm))
 ·rw [fps_append]
  refine List.nodup_append.2 ⟨hn, by simpa [fps] using hxn, fun a ha b hb e => ?_⟩
  subst e
  have h6 := hlt a ha
  have h7 := hxm a (by simpa [fps] using hb)
  omega
 ·intro g hg'
  rcases hw with hw | hw
  ·exact (hown g (by rw [← hw]; exact hg')).1
  ·exact hok g (Nat.le_trans hm (hw g hg'))
 ·intro b hb
  rw [fps_append] at hb
  have h6 := hne b (by
   rcases List.mem_append.1 hb with h | h
   ·exact List.mem_append_left _ h
   ·exact List.mem_append_right _ (by simpa [fps] using h))
  refine ⟨h6.2.1, fun e => ?_⟩
  rcases hw with hw | hw
  ·exact h6.2.2 (by rw [← hw]; exact e)
  ·have := hw b e
   omega
theorem Owned.rep (h : Owned r e ok w v xs) (hn : 0 < r.n) : ∃ A c fp, v = .slice A xs.length c ∧ (Rep.slice r).rep true w fp [.slice A xs.length c] xs ∧ fp.Nodup ∧ ∀ b ∈ fp, ok b := by
 obtain ⟨es, rfl, h2, h3, h4, h5, h6⟩ := h
 obtain ⟨A, c, rfl, hr, hf, hc, hb⟩ := RowK.of_own h2
 by_cases h0 : es = []
 ·subst h0
  exact ⟨A, c, [], rfl, ⟨A, c, rfl, hc, Or.inl ⟨rfl, rfl⟩⟩, List.nodup_nil, fun b h => by cases h⟩
 ·have hl := cells_len (n := r.n) (es := es) (fun x hx => r.len (h3 x hx))
  have hne : cells es ≠ [] := fun e => by
   rw [e] at hl
   have h7 : 0 < es.length := List.length_pos_iff.2 h0
   have := Nat.mul_pos h7 hn
   simp at hl
   omega
  obtain ⟨b, o, rfl, ⟨k1, k2, k3⟩, hcell⟩ := hr hne
  have hob : (Value.slice (some ⟨b, o, none⟩) (vals es).length c).ownBlock = some b := rfl
  rw [hob] at h6 h5
  refine ⟨_, c, b :: fps es, rfl, ⟨_, c, rfl, hc, Or.inr ⟨b, o, es, rfl, rfl, h0, rfl, k2, h3, fun _ => ⟨b, o, rfl, ⟨Nat.le_refl _, Nat.lt_succ_self _, by omega⟩, hcell⟩, fun _ => hf⟩⟩, List.nodup_cons.2 ⟨fun h => (h6 b h).2 rfl, h4⟩, fun i hi => ?_⟩
  rcases List.mem_cons.1 hi with rfl | hi
  ·exact h5 _ rfl
  ·exact (h6 i hi).1
end

def Filling (r : Rep α) (e : TypeId) (z : El α) (ok : Nat → Prop) (w : World) (g n : Nat) (xs : List α) : Prop :=
 ∃ es : List (El α), vals es = xs ∧ (∃ cur : Array Value, w.heap[g]? = some (.cells cur e (0, 0)) ∧ cur.toList = cells es ++ cells (List.replicate (n - xs.length) z)) ∧ (∀ x ∈ es, r.rep true w x.1 x.2.1 x.2.2) ∧ (fps es).Nodup ∧ ok g ∧ ∀ b ∈ fps es, ok b ∧ g ≠ b
section
variable {r : Rep α} {e : TypeId} {z : El α} {ok : Nat → Prop} {w w' : World} {g n : Nat} {xs : List α}
theorem Filling.made (w : World) (cur : Array Value) (hc : cur.toList = cells (List.replicate n z)) (hok : ok w.heap.size) : Filling r e z ok (w.alloc (.cells cur e)) w.heap.size n [] :=
 ⟨[], rfl, ⟨cur, heap_alloc_new _ _, by simpa [cells] using hc⟩, (fun _ h => by cases h), List.nodup_nil, hok, (fun _ h => by cases h)⟩
theorem Filling.lt (h : Filling r e z ok w g n xs) : g < w.heap.size := by
 obtain ⟨_, _, ⟨_, h2, _⟩, _⟩ := h
 exact (Array.getElem?_eq_some_iff.1 h2).1
theorem Filling.below (h : Filling r e z ok w g n xs) (hb : Below w.heap.size w w') : Filling r e z ok w' g n xs := by
 have hl := h.lt
 obtain ⟨es, h1, ⟨cur, h2, hc⟩, h3, h4, h5, h6⟩ := h
 exact ⟨es, h1, ⟨cur, by rw [hb.block g hl]; exact h2, hc⟩, fun x hx => Rep.below (h3 x hx) hb, h4, h5, h6⟩
theorem Filling.cell (h : Filling r e z ok w g n xs) (hz : z.2.1.length = r.n) (hk : xs.length < n) {j : Nat} {u : Value} (hj : j < r.n) (hu : z.2.1[j]? = some u) : w.cell? ⟨g, xs.length * r.n + j, none⟩ = some u ∧ w.frozen? ⟨g, xs.length * r.n + j, none⟩ = false := by
 obtain ⟨es, rfl, ⟨cur, h2, hc⟩, h3, _⟩ := h
 have hl := cells_len (n := r.n) (es := es) (fun x hx => r.len (h3 x hx))
 rw [vals_len] at *
 refine ⟨?_, by unfold World.frozen?; rw [h2]; simp⟩
 rw [cell_of_row w g _ cur e (0, 0) h2, ← Array.getElem?_toList, hc, List.getElem?_append_right (by omega), hl, Nat.add_sub_cancel_left]
 have := cells_at (n := r.n) (es := List.replicate (n - es.length) z) (fun y hy => by rw [(List.mem_replicate.1 hy).2]; exact hz) (k := 0) (i := j) (by simp; omega) hj
 rw [Nat.zero_mul, Nat.zero_add] at this
 rw [this]
 simpa using hu
end
def stores (w : World) (g : Nat) : Nat → List Value → World
 | _, [] => w
 | o, u :: us => stores (w.setCell ⟨g, o, none⟩ u) g (o + 1) us
theorem stores_modF (g : Nat) : ∀ (us : List Value) (o : Nat) (w : World), ModF [g] w (stores w g o us)
 | [], _, w => ModF.refl _ w
 | u :: us, o, w => (ModF.set w (p := ⟨g, o, none⟩) (by simp) u).trans (stores_modF g us (o + 1) _)
theorem stores_block {g : Nat} {e : TypeId} : ∀ {us : List Value} {o : Nat} {w : World} {cur : Array Value} {a b c : List Value}, w.heap[g]? = some (.cells cur e (0, 0)) → cur.toList = a ++ b ++ c → a.length = o → b.length = us.length →
  ∃ cur' : Array Value, (stores w g o us).heap[g]? = some (.cells cur' e (0, 0)) ∧ cur'.toList = a ++ us ++ c
 | [], o, w, cur, a, b, c, h, hc, ha, hb => ⟨cur, h, by rw [hc, List.eq_nil_of_length_eq_zero hb]⟩
 | u :: us, o, w, cur, a, [], c, h, hc, ha, hb => by simp at hb
 | u :: us, o, w, cur, a, y :: b, c, h, hc, ha, hb => by
  have h1 : (w.setCell ⟨g, o, none⟩ u).heap[g]? = some (.cells (cur.setIfInBounds o u) e (0, 0)) := by
   simp only [World.setCell, Array.getElem?_modify, if_true, h, Option.map_some]
   simp
  have h2 : (cur.setIfInBounds o u).toList = (a ++ [u]) ++ b ++ c := by
   rw [Array.toList_setIfInBounds, hc, List.append_assoc, List.set_append_right _ _ (by omega), ha, Nat.sub_self]
   simp
  obtain ⟨cur', h3, h4⟩ := stores_block (us := us) (o := o + 1) h1 h2 (by simp [ha]) (by simpa using hb)
  exact ⟨cur', h3, by rw [h4]; simp⟩
section
variable {r : Rep α} {e : TypeId} {z : El α} {ok : Nat → Prop} {w w' : World} {g n : Nat} {xs : List α}
theorem Filling.snoc {m : Nat} {fp : List Nat} {x : α} {us : List Value} (h : Filling r e z ok w g n xs) (hz : z.2.1.length = r.n) (hk : xs.length < n) (hb : Below w.heap.size w w') (hm : w.heap.size ≤ m) (hx : r.rep true w' fp us x) (hxn : fp.Nodup) (hxm : ∀ b ∈ fp, m ≤ b) (hok : ∀ b, m ≤ b → ok b) :
  Filling r e z ok (stores w' g (xs.length * r.n) us) g n (xs ++ [x]) := by
 have hlg := h.lt
 obtain ⟨es, rfl, ⟨cur, h2, hc⟩, h3, h4, h5, h6⟩ := h
 have hl := cells_len (n := r.n) (es := es) (fun x hx => r.len (h3 x hx))
 have hold : ∀ b ∈ fps es, b < w.heap.size := fun b hb' => by
  obtain ⟨y, hy, hyb⟩ := List.mem_flatMap.1 hb'
  exact r.lt (h3 y hy) b hyb
 rw [vals_len] at *
 obtain ⟨q, hq⟩ : ∃ q, n - es.length = q + 1 := ⟨n - es.length - 1, by omega⟩
 rw [hq, List.replicate_succ, show cells (z :: List.replicate q z) = z.2.1 ++ cells (List.replicate q z) by simp [cells], ← List.append_assoc] at hc
 have hbl : w'.heap[g]? = some (.cells cur e (0, 0)) := by rw [hb.block g hlg]; exact h2
 obtain ⟨cur', h7, h8⟩ := stores_block (us := us) hbl hc hl (by rw [hz, r.len hx])
 have mm := stores_modF g us (es.length * r.n) w'
 have hg : ∀ b ∈ fp, g ≠ b := fun b hb' e => by have := hxm b hb'; omega
 refine ⟨es ++ [(fp, us, x)], by rw [vals_append]; rfl, ⟨cur', h7, ?_⟩, ?_, ?_, h5, ?_⟩
 ·rw [h8, List.length_append, vals_len, List.length_singleton, show n - (es.length + 1) = q by omega, cells_append]
  simp [cells]
 ·intro y hy
  rcases List.mem_append.1 hy with hy | hy
  ·exact Rep.keepF (Rep.below (h3 y hy) hb) mm (fun b hb' => by have := (h6 b (mem_fps hy hb')).2; simp; exact fun e => this e.symm)
  ·rw [List.mem_singleton.1 hy]
   exact Rep.keepF hx mm (fun b hb' => by have := hg b hb'; simp; exact fun e => this e.symm)
 ·rw [fps_append]
  refine List.nodup_append.2 ⟨h4, by simpa [fps] using hxn, fun a ha b hb' e => ?_⟩
  subst e
  have h9 := hold a ha
  have h10 := hxm a (by simpa [fps] using hb')
  omega
 ·intro b hb'
  rw [fps_append] at hb'
  rcases List.mem_append.1 hb' with h | h
  ·exact h6 b h
  ·have h9 := by simpa [fps] using h
   exact ⟨hok b (hxm b h9), hg b h9⟩
theorem Filling.done (h : Filling r e z ok w g xs.length xs) (hm : xs.length ≤ maxLen) : Owned r e ok w (.slice (some ⟨g, 0, none⟩) xs.length xs.length) xs := by
 obtain ⟨es, rfl, ⟨cur, h2, hc⟩, h3, h4, h5, h6⟩ := h
 have hl := cells_len (n := r.n) (es := es) (fun x hx => r.len (h3 x hx))
 rw [Nat.sub_self, show cells (List.replicate 0 z) = [] from rfl, List.append_nil] at hc
 have hs : cur.size = (vals es).length * r.n := by rw [vals_len, ← hl, ← hc]; simp
 refine ⟨es, rfl, ⟨by rw [hl, vals_len], Or.inr ⟨g, _, cur, rfl, Nat.zero_le _, h2, Nat.le_refl _, hm, hs, ?_⟩⟩, h3, h4, fun g' hg' => ?_, fun b hb => ⟨(h6 b hb).1, fun e => ?_⟩⟩
 ·rw [hc, List.take_of_length_le (by rw [hl, vals_len]; exact Nat.le_refl _)]
 ·injection hg' with hg'; exact hg' ▸ h5
 ·injection e with e; exact (h6 b hb).2 e
end
end Mem
end Go.Proofs.YtbbllkhmenpnlaaGreat

/-
  Slices of any data: their marks, the cells that make lays, what a law is given.
-/
namespace Go.Proofs.YtbbllkhmenpnlaaGreat
open Go.RowKit
namespace Mem
open RowK
section
variable {α : Type} {mk : Nat → α → α} {sz : α → Nat}
def mks (mk : Nat → α → α) (sz : α → Nat) : Nat → List α → List α
 | _, [] => []
 | k, x :: xs => mk k x :: mks mk sz (k + sz x) xs
def szs (sz : α → Nat) (xs : List α) : Nat := (xs.map sz).sum
theorem szs_cons (x : α) (xs : List α) : szs sz (x :: xs) = sz x + szs sz xs := by simp [szs]
theorem szs_append (a b : List α) : szs sz (a ++ b) = szs sz a + szs sz b := by simp [szs]
theorem szs_snoc (a : List α) (x : α) : szs sz (a ++ [x]) = szs sz a + sz x := by simp [szs]
theorem szs_take (xs : List α) (k : Nat) : szs sz (xs.take k) ≤ szs sz xs := by
 have h : szs sz xs = szs sz (xs.take k) + szs sz (xs.drop k) := by rw [← szs_append, List.take_append_drop]
 omega
theorem szs_mem : ∀ {xs : List α} {x : α}, x ∈ xs → sz x ≤ szs sz xs
 | y :: ys, x, h => by
  rw [szs_cons]
  rcases List.mem_cons.1 h with rfl | h
  ·omega
  ·have := szs_mem h
   omega
theorem szs_le {f g : α → Nat} (h : ∀ x, f x ≤ g x) : ∀ xs : List α, szs f xs ≤ szs g xs
 | [] => Nat.le_refl _
 | x :: xs => by
  rw [szs_cons, szs_cons]
  have := szs_le h xs
  have := h x
  omega
theorem take_snoc {xs : List α} {k : Nat} (h : k < xs.length) : xs.take (k + 1) = xs.take k ++ [xs[k]] := by rw [List.take_add_one, List.getElem?_eq_getElem h]; rfl
theorem szs_step {xs : List α} {k : Nat} (h : k < xs.length) : szs sz (xs.take (k + 1)) = szs sz (xs.take k) + sz xs[k] := by rw [take_snoc h, szs_snoc]
theorem mks_len : ∀ (xs : List α) (k : Nat), (mks mk sz k xs).length = xs.length
 | [], _ => rfl
 | x :: xs, k => by rw [mks, List.length_cons, mks_len xs, List.length_cons]
theorem mks_append : ∀ (a b : List α) (k : Nat), mks mk sz k (a ++ b) = mks mk sz k a ++ mks mk sz (k + szs sz a) b
 | [], b, k => by simp [mks, szs]
 | x :: a, b, k => by
  rw [List.cons_append, mks, mks, mks_append a b, List.cons_append, szs_cons, Nat.add_assoc]
theorem mks_snoc (a : List α) (x : α) (k : Nat) : mks mk sz k (a ++ [x]) = mks mk sz k a ++ [mk (k + szs sz a) x] := by
 rw [mks_append]; rfl
theorem mks_at (k : Nat) (xs : List α) {j : Nat} (hj : j < xs.length) (h : j < (mks mk sz k xs).length) : (mks mk sz k xs)[j] = mk (k + szs sz (xs.take j)) xs[j] := by
 have e : mks mk sz k xs = mks mk sz k (xs.take j) ++ mks mk sz (k + szs sz (xs.take j)) (xs.drop j) := by rw [← mks_append, List.take_append_drop]
 have hl : (mks mk sz k (xs.take j)).length = j := by rw [mks_len, List.length_take]; omega
 have h2 : (mks mk sz k xs)[j]? = some (mk (k + szs sz (xs.take j)) xs[j]) := by
  rw [e, List.getElem?_append_right (by omega), hl, Nat.sub_self, List.drop_eq_getElem_cons hj]
  rfl
 rw [List.getElem?_eq_getElem h] at h2
 exact Option.some.inj h2

def Marking (r : Rep α) (mk : Nat → α → α) (sz : α → Nat) (fp : List Nat) (w : World) (xs : List α) (A : Option Addr) (k0 : Nat) (x i : Value) (wr : World) : Prop :=
 ∃ (k l b o : Nat) (done rest : List (El α)), k ≤ xs.length ∧ i = .int .i64 k ∧ x = .int .i64 l ∧ l = k0 + szs sz (xs.take k) ∧ A = some ⟨b, o, none⟩ ∧ b < wr.heap.size ∧ done.length = k ∧
  Row b (b + 1) wr A (cells (done ++ rest)) ∧ Free wr A (xs.length * r.n) ∧ (∀ e ∈ done ++ rest, r.rep true wr e.1 e.2.1 e.2.2) ∧ fp = b :: fps (done ++ rest) ∧ fp.Nodup ∧ vals done = mks mk sz k0 (xs.take k) ∧ vals rest = xs.drop k ∧ ModF fp w wr
theorem fps_apart {a b : List (El α)} {e : El α} {B : Nat} (h : (B :: fps (a ++ e :: b)).Nodup) : (∀ x ∈ a ++ b, ∀ i ∈ x.1, i ∉ e.1 ∧ i ≠ B) ∧ (∀ i ∈ e.1, i ≠ B) ∧ e.1.Nodup := by
 obtain ⟨h1, h2⟩ := List.nodup_cons.1 h
 have hf : fps (a ++ e :: b) = fps a ++ (e.1 ++ fps b) := by simp [fps]
 rw [hf] at h1 h2
 obtain ⟨h3, h4, h5⟩ := List.nodup_append.1 h2
 obtain ⟨h6, h7, h8⟩ := List.nodup_append.1 h4
 refine ⟨fun x hx i hi => ?_, fun i hi e => h1 (e ▸ List.mem_append_right _ (List.mem_append_left _ hi)), h6⟩
 rcases List.mem_append.1 hx with hx | hx
 ·have := mem_fps hx hi
  exact ⟨fun h => h5 i this i (List.mem_append_left _ h) rfl, fun e => h1 (e ▸ List.mem_append_left _ this)⟩
 ·have := mem_fps hx hi
  exact ⟨fun h => h8 i h i this rfl, fun e => h1 (e ▸ List.mem_append_right _ (List.mem_append_right _ this))⟩
theorem marking_zero {r : Rep α} {w : World} {fp : List Nat} {A : Option Addr} {c : Nat} {xs : List α} (k0 : Nat) (h : (Rep.slice r).rep true w fp [.slice A xs.length c] xs) (hn : fp.Nodup) (hne : xs ≠ []) : Marking r mk sz fp w xs A k0 (.int .i64 k0) (.int .i64 0) w := by
 obtain ⟨A', c', e, hc, ⟨rfl, rfl⟩ | ⟨b, o, es, rfl, rfl, hne, rfl, hl, he, hr, hf⟩⟩ := h
 ·exact absurd rfl hne
 ·injection e with e _
  injection e with e1 e2 e3
  subst e1
  refine ⟨0, k0, b, o, [], es, Nat.zero_le _, rfl, rfl, by simp [szs], rfl, hl, rfl, hr, ?_, he, rfl, hn, rfl, rfl, ModF.refl _ _⟩
  rw [vals_len, ← cells_len (n := r.n) (fun e h => r.len (he e h))]
  exact hf rfl
theorem marking_end {r : Rep α} {fp : List Nat} {w wr : World} {xs : List α} {A : Option Addr} {k0 c : Nat} {x : Value} (hc : xs.length ≤ c) (hne : xs ≠ []) (h : Marking r mk sz fp w xs A k0 x (.int .i64 (xs.length : Int)) wr) :
  (Rep.slice r).rep true wr fp [.slice A xs.length c] (mks mk sz k0 xs) ∧ ModF fp w wr ∧ x = .int .i64 ((k0 : Int) + szs sz xs) := by
 obtain ⟨k', l', b, o, done, rest, hkl, e1, rfl, hsum, rfl, hb, hdl, hr, hf, he, rfl, hn, hv1, hv2, hm⟩ := h
 injection e1 with _ e1
 obtain rfl : xs.length = k' := by omega
 rw [List.take_length] at hsum hv1
 rw [List.drop_length] at hv2
 obtain rfl : rest = [] := by simpa [vals] using hv2
 rw [List.append_nil] at *
 have hd : done ≠ [] := fun e => hne (List.eq_nil_of_length_eq_zero (by rw [← hdl, e]; rfl))
 refine ⟨⟨_, c, by rw [mks_len], by rw [mks_len]; exact hc, Or.inr ⟨b, o, done, rfl, hv1.symm, hd, rfl, hb, he, hr, fun _ => ?_⟩⟩, hm, congrArg (Value.int .i64) (by omega)⟩
 rw [cells_len (n := r.n) (fun e h => r.len (he e h)), hdl]
 exact hf
theorem cells_swap {n : Nat} {done rest : List (El α)} {e f : El α} (hd : ∀ x ∈ done, x.2.1.length = n) (he : e.2.1.length = n) (hf : f.2.1.length = n) {j : Nat} (hj : j < done.length * n ∨ done.length * n + n ≤ j) :
  (cells (done ++ f :: rest))[j]? = (cells (done ++ e :: rest))[j]? := by
 have hl := cells_len hd
 have h1 : ∀ g : El α, cells (done ++ g :: rest) = cells done ++ (g.2.1 ++ cells rest) := fun g => by simp [cells]
 rw [h1, h1]
 rcases hj with hj | hj
 ·rw [List.getElem?_append_left (by omega), List.getElem?_append_left (by omega)]
 ·rw [List.getElem?_append_right (by omega), List.getElem?_append_right (by omega), List.getElem?_append_right (by omega), List.getElem?_append_right (by omega), he, hf]
theorem marking_at {r : Rep α} {fp : List Nat} {w wr : World} {xs : List α} {A : Option Addr} {k0 k l : Nat} (h : Marking r mk sz fp w xs A k0 (.int .i64 l) (.int .i64 k) wr) (hk : k < xs.length) :
  ∃ b o f cs, A = some ⟨b, o, none⟩ ∧ b < wr.heap.size ∧ r.rep true wr f cs xs[k] ∧ f.Nodup ∧ b ∉ f ∧ (∀ i, i < r.n → wr.cell? ⟨b, o + k * r.n + i, none⟩ = cs[i]?) ∧ (∀ i, i < r.n → wr.frozen? ⟨b, o + k * r.n + i, none⟩ = false) ∧
   ∀ w2 cs', r.rep true w2 f cs' (mk l xs[k]) → ModF (b :: f) wr w2 → (∀ j, (j < k * r.n ∨ k * r.n + r.n ≤ j) → w2.cell? ⟨b, o + j, none⟩ = wr.cell? ⟨b, o + j, none⟩) → (∀ i, i < r.n → w2.cell? ⟨b, o + k * r.n + i, none⟩ = cs'[i]?) →
    (∀ j, w2.frozen? ⟨b, o + j, none⟩ = wr.frozen? ⟨b, o + j, none⟩) → Marking r mk sz fp w xs A k0 (.int .i64 ((l + sz xs[k] : Nat) : Int)) (.int .i64 ((k + 1 : Nat) : Int)) w2 := by
 obtain ⟨k', l', b, o, done, rest, hkl, e1, e2, hsum, rfl, hb, hdl, hr, hf, he, rfl, hn, hv1, hv2, hm⟩ := h
 injection e1 with _ e1
 injection e2 with _ e2
 obtain rfl : k = k' := by omega
 obtain rfl : l = l' := by omega
 clear e1 e2
 obtain ⟨e, rest, rfl⟩ : ∃ e r, rest = e :: r := by
  cases rest with
  | nil => rw [List.drop_eq_getElem_cons hk] at hv2; cases hv2
  | cons e r => exact ⟨e, r, rfl⟩
 rw [List.drop_eq_getElem_cons hk] at hv2
 obtain ⟨hx, hv3⟩ : e.2.2 = xs[k] ∧ vals rest = xs.drop (k + 1) := by
  unfold vals at hv2 ⊢
  rw [List.map_cons] at hv2
  injection hv2 with a b
  exact ⟨a, b⟩
 have hem : e ∈ done ++ e :: rest := List.mem_append_right _ List.mem_cons_self
 have hre := he e hem
 obtain ⟨hd1, hd2, hd3⟩ := fps_apart hn
 have hlen := fun e h => r.len (he e h)
 have hlenS := cells_len (n := r.n) hlen
 have hxl : (done ++ e :: rest).length = xs.length := by
  have h1 := congrArg List.length hv1
  have h2 := congrArg List.length hv3
  rw [vals_len, mks_len, List.length_take] at h1
  rw [vals_len, List.length_drop] at h2
  simp
  omega
 have hat : (done ++ e :: rest)[k]'(by omega) = e := by
  rw [List.getElem_append_right (by omega)]
  simp [hdl]
 have hlt : ∀ i, i < r.n → k * r.n + i < (cells (done ++ e :: rest)).length := fun i hi => by
  rw [hlenS, hxl]
  have := Nat.mul_le_mul_right r.n (Nat.succ_le_of_lt hk)
  rw [Nat.succ_mul] at this
  omega
 rw [← hx]
 refine ⟨b, o, e.1, e.2.1, rfl, hb, hre, hd3, fun h => hd2 b h rfl, fun i hi => ?_, fun i hi => ?_, fun w2 cs' hr2 hm2 hc2 hi2 hf2 => ?_⟩
 ·obtain ⟨b', o', e', _, h2⟩ := hr (fun e => by have := hlt i hi; rw [e] at this; simp at this)
  injection e' with e'; injection e' with e1 e2; subst e1; subst e2
  have g0 := h2 (k * r.n + i) _ (List.getElem?_eq_getElem (hlt i hi))
  rw [Nat.add_assoc, g0, ← List.getElem?_eq_getElem (hlt i hi), cells_at hlen (k := k) (by omega) hi, hat]
 ·have := hlt i hi
  rw [hlenS, hxl] at this
  rw [Nat.add_assoc]
  exact hf (by omega) b o rfl _ this
 ·have hl2 : cs'.length = r.n := r.len hr2
  have hfps : fps ((done ++ [(e.1, cs', mk l e.2.2)]) ++ rest) = fps (done ++ e :: rest) := by simp [fps]
  have hnew : (done ++ [(e.1, cs', mk l e.2.2)]) ++ rest = done ++ (e.1, cs', mk l e.2.2) :: rest := by simp
  have hlend : ∀ x ∈ done, x.2.1.length = r.n := fun x h => hlen x (List.mem_append_left _ h)
  have hlen' : ∀ x ∈ done ++ (e.1, cs', mk l e.2.2) :: rest, x.2.1.length = r.n := fun x h => by
   rcases List.mem_append.1 h with h | h
   ·exact hlend x h
   ·rcases List.mem_cons.1 h with rfl | h
    ·exact hl2
    ·exact hlen x (List.mem_append_right _ (List.mem_cons_of_mem _ h))
  refine ⟨k + 1, l + sz e.2.2, b, o, done ++ [(e.1, cs', mk l e.2.2)], rest, hk, rfl, rfl, ?_, rfl, Nat.lt_of_lt_of_le hb hm2.size, by simp [hdl], ?_, ?_, ?_, by rw [hfps], hn, ?_, hv3, ?_⟩
  ·rw [szs_step hk, ← hx, hsum]; omega
  ·rw [hnew]
   intro _
   refine ⟨b, o, rfl, ⟨Nat.le_refl _, Nat.lt_succ_self _, Nat.lt_of_lt_of_le hb hm2.size⟩, fun j v hj => ?_⟩
   have hjl := (List.getElem?_eq_some_iff.1 hj).1
   by_cases hin : k * r.n ≤ j ∧ j < k * r.n + r.n
   ·obtain ⟨i, rfl⟩ : ∃ i, j = k * r.n + i := ⟨j - k * r.n, by omega⟩
    have h3 := cells_at hlen' (k := k) (i := i) (by simp; omega) (by omega)
    rw [List.getElem_append_right (by omega)] at h3
    simp only [hdl, Nat.sub_self, List.getElem_cons_zero] at h3
    rw [← Nat.add_assoc, hi2 i (by omega), ← h3, hj]
   ·rw [cells_swap (e := e) hlend (hlen e hem) hl2 (by rw [hdl]; omega)] at hj
    rw [hc2 j (by omega)]
    obtain ⟨b', o', e', _, h2⟩ := hr (fun e => by rw [e] at hj; simp at hj)
    injection e' with e'; injection e' with e1 e2; subst e1; subst e2
    exact h2 j v hj
  ·intro hp b' o' e' j hj
   injection e' with e'; injection e' with e1 e2; subst e1; subst e2
   rw [hf2]
   exact hf hp _ _ rfl j hj
  ·intro x hx'
   rw [hnew] at hx'
   have hkeep : ∀ x ∈ done ++ rest, r.rep true w2 x.1 x.2.1 x.2.2 := fun x hx' => by
    have hd := hd1 x hx'
    refine Rep.keepF (he x ?_) hm2 (fun i hi h => ?_)
    ·rcases List.mem_append.1 hx' with h | h
     ·exact List.mem_append_left _ h
     ·exact List.mem_append_right _ (List.mem_cons_of_mem _ h)
    ·rcases List.mem_cons.1 h with h | h
     ·exact (hd i hi).2 h
     ·exact (hd i hi).1 h
   rcases List.mem_append.1 hx' with h | h
   ·exact hkeep x (List.mem_append_left _ h)
   ·rcases List.mem_cons.1 h with rfl | h
    ·exact hr2
    ·exact hkeep x (List.mem_append_right _ h)
  ·rw [take_snoc hk, mks_snoc, vals_append, hv1, ← hsum, ← hx]
   rfl
  ·exact hm.trans (hm2.wider (fun i hi => by
    rcases List.mem_cons.1 hi with rfl | hi
    ·exact List.mem_cons_self
    ·exact List.mem_cons_of_mem _ (mem_fps hem hi)))
end
theorem made_gen {α : Type} (zs : List Value) (x : α) (hm : 0 < zs.length) (n : Nat) : (madeCells zs.toArray (n * zs.length)).toList = cells (List.replicate n (([] : List Nat), zs, x)) := by
 have hl : ∀ e ∈ List.replicate n (([] : List Nat), zs, x), e.2.1.length = zs.length := fun e he => by rw [(List.mem_replicate.1 he).2]
 have hcl := cells_len hl
 rw [List.length_replicate] at hcl
 refine List.ext_getElem (by simp [madeCells, hcl]) (fun j h1 h2 => ?_)
 have hj : j < n * zs.length := by rwa [hcl] at h2
 have hk : j / zs.length < n := (Nat.div_lt_iff_lt_mul hm).2 hj
 have hi : j % zs.length < zs.length := Nat.mod_lt _ hm
 have h3 := cells_at hl (k := j / zs.length) (i := j % zs.length) (by simpa using hk) hi
 rw [Nat.mul_comm, Nat.div_add_mod] at h3
 rw [List.getElem?_eq_getElem h2] at h3
 simp only [List.getElem_replicate] at h3
 rw [List.getElem?_eq_getElem hi] at h3
 rw [Option.some.inj h3]
 simp [madeCells, hi]

theorem New.keepG {α : Type} {r : Rep α} {w w1 w2 : World} {lo hi : Nat} {x : α} {cs : List Value} (h : New r w x w1 cs) (m : Mod lo hi w1 w2) (hd : hi ≤ w.heap.size) : New r w x w2 cs := by
 obtain ⟨fp, h1, h2, h3⟩ := h
 exact ⟨fp, Rep.keep h1 m (fun b hb => Or.inr (by have := h3 b hb; omega)), h2, h3⟩
theorem New.olderG {α : Type} {r : Rep α} {w w0 w1 : World} {x : α} {cs : List Value} (h : New r w x w1 cs) (hw : w0.heap.size ≤ w.heap.size) : New r w0 x w1 cs := by
 obtain ⟨fp, h1, h2, h3⟩ := h
 exact ⟨fp, h1, h2, fun b hb => Nat.le_trans hw (h3 b hb)⟩

def OwnS {α : Type} (r : Rep α) (lo hi : Nat) (w : World) (A : Option Addr) (n c : Nat) (xs : List α) : Prop := hi ≤ w.heap.size ∧ ∃ fp, (Rep.slice r).rep true w fp [.slice A n c] xs ∧ fp.Nodup ∧ ∀ b ∈ fp, lo ≤ b ∧ b < hi
def ArgS {α : Type} (r : Rep α) (w : World) (A : Option Addr) (n c : Nat) (xs : List α) : Prop := ∃ q fp, (Rep.slice r).rep q w fp [.slice A n c] xs
section
variable {α : Type} {r : Rep α} {lo hi lo' hi' n c : Nat} {w w' : World} {A : Option Addr} {xs : List α}
theorem OwnS.below (h : OwnS r lo hi w A n c xs) (hb : Below w.heap.size w w') : OwnS r lo hi w' A n c xs := by
 obtain ⟨h0, fp, h1, h2, h3⟩ := h
 exact ⟨Nat.le_trans h0 hb.size, fp, Rep.below h1 hb, h2, h3⟩
theorem OwnS.keep (h : OwnS r lo hi w A n c xs) (m : Mod lo' hi' w w') (hd : hi ≤ lo' ∨ hi' ≤ lo) : OwnS r lo hi w' A n c xs := by
 obtain ⟨h0, fp, h1, h2, h3⟩ := h
 exact ⟨Nat.le_trans h0 m.size, fp, Rep.keep h1 m (fun b hb => by have := h3 b hb; omega), h2, h3⟩
theorem OwnS.wider (h : OwnS r lo hi w A n c xs) (h1 : lo' ≤ lo) (h2 : hi ≤ hi') (h3 : hi' ≤ w.heap.size) : OwnS r lo' hi' w A n c xs := by
 obtain ⟨_, fp, k1, k2, k3⟩ := h
 exact ⟨h3, fp, k1, k2, fun b hb => ⟨Nat.le_trans h1 (k3 b hb).1, Nat.lt_of_lt_of_le (k3 b hb).2 h2⟩⟩
theorem OwnS.arg (h : OwnS r lo hi w A n c xs) : ArgS r w A n c xs := by
 obtain ⟨_, fp, h1, _⟩ := h
 exact ⟨true, fp, h1⟩
theorem OwnS.cap (h : OwnS r lo hi w A n c xs) : xs.length = n ∧ xs.length ≤ c := by
 obtain ⟨_, fp, ⟨_, _, e, h, _⟩, _⟩ := h
 injection e with e _
 injection e with _ e1 e2
 omega
theorem ArgS.below (h : ArgS r w A n c xs) (hb : Below w.heap.size w w') : ArgS r w' A n c xs := by
 obtain ⟨q, fp, h1⟩ := h
 exact ⟨q, fp, Rep.below h1 hb⟩
theorem ArgS.cap (h : ArgS r w A n c xs) : xs.length = n ∧ xs.length ≤ c := by
 obtain ⟨q, fp, _, _, e, h, _⟩ := h
 injection e with e _
 injection e with _ e1 e2
 omega
theorem ArgS.nil (r : Rep α) (w : World) (A : Option Addr) (c : Nat) : ArgS r w A 0 c [] := ⟨true, [], A, c, rfl, Nat.zero_le _, Or.inl ⟨rfl, rfl⟩⟩
theorem OwnS.nil (r : Rep α) (w : World) (A : Option Addr) (c : Nat) (h : hi ≤ w.heap.size) : OwnS r lo hi w A 0 c [] := ⟨h, [], ⟨A, c, rfl, Nat.zero_le _, Or.inl ⟨rfl, rfl⟩⟩, List.nodup_nil, fun _ h => by cases h⟩
theorem OwnS.of_new {w0 : World} (h : New (Rep.slice r) w0 xs w [.slice A n c]) : OwnS r w0.heap.size w.heap.size w A n c xs := by
 obtain ⟨fp, h1, h2, h3⟩ := h
 exact ⟨Nat.le_refl _, fp, h1, h2, fun b hb => ⟨h3 b hb, (Rep.slice r).lt h1 b hb⟩⟩
theorem Owned.ownS {ok : Nat → Prop} {e : TypeId} {v : Value} (h : Owned r e ok w v xs) (hn : 0 < r.n) (hk : ∀ b, ok b → lo ≤ b) : ∃ A c, v = .slice A xs.length c ∧ OwnS r lo w.heap.size w A xs.length c xs := by
 obtain ⟨A, c, fp, rfl, h1, h2, h3⟩ := h.rep hn
 exact ⟨A, c, rfl, Nat.le_refl _, fp, h1, h2, fun b hb => ⟨hk b (h3 b hb), (Rep.slice r).lt h1 b hb⟩⟩
end
end Mem
end Go.Proofs.YtbbllkhmenpnlaaGreat
