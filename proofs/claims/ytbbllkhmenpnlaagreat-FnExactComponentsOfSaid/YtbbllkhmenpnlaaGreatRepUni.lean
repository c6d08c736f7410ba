import Derived.Test.YtbbllkhmenpnlaaGreatRepSum
import Derived.Laws.ResultCell
import Derived.Test.YtbbllkhmenpnlaaGreatRepSys
import Derived.Test.YtbbllkhmenpnlaaGreatStrEq
/-
  One form of the laws' helpers for every kind of data: strings, expressions and sums brought into it.
-/
namespace Go.Proofs.YtbbllkhmenpnlaaGreat
open Go.RowKit
namespace Mem
open RowK
section
variable {α β : Type} {r : Rep α} {s : Rep β} {lo hi lo' hi' mid : Nat} {w w' : World} {cs c1 c2 : List Value} {x : α} {y : β}
def OwnR (r : Rep α) (lo hi : Nat) (w : World) (cs : List Value) (x : α) : Prop := hi ≤ w.heap.size ∧ ∃ fp, r.rep true w fp cs x ∧ fp.Nodup ∧ ∀ b ∈ fp, lo ≤ b ∧ b < hi
def ArgR (r : Rep α) (w : World) (cs : List Value) (x : α) : Prop := ∃ q fp, r.rep q w fp cs x
theorem OwnR.below (h : OwnR r lo hi w cs x) (hb : Below w.heap.size w w') : OwnR r lo hi w' cs x := by
 obtain ⟨h0, fp, h1, h2, h3⟩ := h
 exact ⟨Nat.le_trans h0 hb.size, fp, Rep.below h1 hb, h2, h3⟩
theorem OwnR.keep (h : OwnR r lo hi w cs x) (m : Mod lo' hi' w w') (hd : hi ≤ lo' ∨ hi' ≤ lo) : OwnR r lo hi w' cs x := by
 obtain ⟨h0, fp, h1, h2, h3⟩ := h
 exact ⟨Nat.le_trans h0 m.size, fp, Rep.keep h1 m (fun b hb => by have := h3 b hb; omega), h2, h3⟩
theorem OwnR.wider (h : OwnR r lo hi w cs x) (h1 : lo' ≤ lo) (h2 : hi ≤ hi') (h3 : hi' ≤ w.heap.size) : OwnR r lo' hi' w cs x := by
 obtain ⟨_, fp, k1, k2, k3⟩ := h
 exact ⟨h3, fp, k1, k2, fun b hb => ⟨Nat.le_trans h1 (k3 b hb).1, Nat.lt_of_lt_of_le (k3 b hb).2 h2⟩⟩
theorem OwnR.arg (h : OwnR r lo hi w cs x) : ArgR r w cs x := by
 obtain ⟨_, fp, h1, _⟩ := h
 exact ⟨true, fp, h1⟩
theorem OwnR.size (h : OwnR r lo hi w cs x) : hi ≤ w.heap.size := h.1
theorem ArgR.below (h : ArgR r w cs x) (hb : Below w.heap.size w w') : ArgR r w' cs x := by
 obtain ⟨q, fp, h1⟩ := h
 exact ⟨q, fp, Rep.below h1 hb⟩
theorem OwnR.of_new {w0 : World} (h : New r w0 x w cs) : OwnR r w0.heap.size w.heap.size w cs x := by
 obtain ⟨fp, h1, h2, h3⟩ := h
 exact ⟨Nat.le_refl _, fp, h1, h2, fun b hb => ⟨h3 b hb, r.lt h1 b hb⟩⟩
theorem OwnR.new {w0 : World} (h : OwnR r lo hi w cs x) (h0 : w0.heap.size ≤ lo) : New r w0 x w cs := by
 obtain ⟨_, fp, h1, h2, h3⟩ := h
 exact ⟨fp, h1, h2, fun b hb => Nat.le_trans h0 (h3 b hb).1⟩
theorem OwnR.int (h : hi ≤ w.heap.size) (z : Int) : OwnR Rep.int lo hi w [.int .i64 z] z := ⟨h, [], ⟨rfl, rfl⟩, List.nodup_nil, fun _ h => by cases h⟩
theorem OwnR.str (h : hi ≤ w.heap.size) (z : ByteArray) : OwnR Rep.str lo hi w [.string z] z := ⟨h, [], ⟨rfl, rfl⟩, List.nodup_nil, fun _ h => by cases h⟩
theorem OwnR.bool (h : hi ≤ w.heap.size) (z : Bool) : OwnR Rep.bool lo hi w [.bool z] z := ⟨h, [], ⟨rfl, rfl⟩, List.nodup_nil, fun _ h => by cases h⟩
theorem OwnR.prod (h1 : OwnR r lo mid w c1 x) (h2 : OwnR s mid hi w c2 y) (hm : lo ≤ mid) (hm2 : mid ≤ hi) : OwnR (Rep.prod r s) lo hi w (c1 ++ c2) (x, y) := by
 obtain ⟨_, f1, k1, k2, k3⟩ := h1
 obtain ⟨h0, f2, g1, g2, g3⟩ := h2
 refine ⟨h0, f1 ++ f2, ⟨f1, f2, c1, c2, rfl, rfl, k1, g1⟩, List.nodup_append.2 ⟨k2, g2, fun a ha b hb e => ?_⟩, fun b hb => ?_⟩
 ·subst e
  have := k3 a ha
  have := g3 a hb
  omega
 ·rcases List.mem_append.1 hb with hb | hb
  ·have := k3 b hb; omega
  ·have := g3 b hb; omega
end
def CopiedU {α : Type} (r : Rep α) (w : World) (xs : List α) (e : Ending) (w' : World) : Prop :=
 ∃ A, e = .returned (.slice A xs.length xs.length) ∧ OwnR (Rep.slice r) w.heap.size w'.heap.size w' [.slice A xs.length xs.length] xs ∧ Below w.heap.size w w'
def MarkedU {α : Type} (r : Rep α) (mk : Nat → α → α) (n : α → Nat) (fp : List Nat) (w : World) (A : Option Addr) (c k0 : Nat) (xs : List α) (e : Ending) (w' : World) : Prop :=
 e = .returned (.int .i64 ((k0 + szs n xs : Nat) : Int)) ∧ (Rep.slice r).rep true w' fp [.slice A xs.length c] (mks mk n k0 xs) ∧ ModF fp w w'
theorem szs_bound {α : Type} {n sz : α → Nat} (h : ∀ x, n x ≤ 8 * (1 + sz x)) : ∀ xs : List α, szs n xs ≤ 8 * (xs.length + szs sz xs)
 | [] => by simp [szs]
 | x :: xs => by
  rw [szs_cons, szs_cons, List.length_cons]
  have := szs_bound h xs
  have := h x
  omega

theorem apart2 {f g : List Nat} (h : (f ++ g).Nodup) : f.Nodup ∧ g.Nodup ∧ (∀ b ∈ f, b ∉ g) ∧ (∀ b ∈ g, b ∉ f) := by
 obtain ⟨h1, h2, h3⟩ := List.nodup_append.1 h
 exact ⟨h1, h2, fun b hb hg => h3 b hb b hg rfl, fun b hb hf => h3 b hf b hb rfl⟩
def mb (k : Nat) : Bool := decide (Int.tmod (k : Int) 3 = 0)
theorem mb_eq (k : Nat) : mb k = decide (Int.tmod (k : Int) 3 = 0) := rfl
structure Elem (b p : Nat) (fp : List Nat) (wr w : World) (cs : List Value) : Prop where
 lt : b < w.heap.size
 modF : ModF (b :: fp) wr w
 cell : ∀ i v, cs[i]? = some v → w.cell? ⟨b, p + i, none⟩ = some v
 other : ∀ j, (j < p ∨ p + cs.length ≤ j) → w.cell? ⟨b, j, none⟩ = wr.cell? ⟨b, j, none⟩
 frozen : ∀ j, w.frozen? ⟨b, j, none⟩ = wr.frozen? ⟨b, j, none⟩
section
variable {b p : Nat} {fp gp : List Nat} {wr w w' : World} {cs : List Value}
theorem Elem.start (hb : b < wr.heap.size) (hc : ∀ i v, cs[i]? = some v → wr.cell? ⟨b, p + i, none⟩ = some v) : Elem b p fp wr wr cs := ⟨hb, ModF.refl _ _, hc, fun _ _ => rfl, fun _ => rfl⟩
theorem Elem.below (h : Elem b p fp wr w cs) (hb : Below w.heap.size w w') : Elem b p fp wr w' cs :=
 ⟨Nat.lt_of_lt_of_le h.lt hb.size, h.modF.trans (ModF.of_below hb), fun i v hi => by rw [hb.cell (p := ⟨b, p + i, none⟩) h.lt]; exact h.cell i v hi, fun j hj => by rw [hb.cell (p := ⟨b, j, none⟩) h.lt]; exact h.other j hj, fun j => by rw [hb.frozen (p := ⟨b, j, none⟩) h.lt]; exact h.frozen j⟩
theorem Elem.mod (h : Elem b p fp wr w cs) (m : ModF gp w w') (hn : b ∉ gp) (hs : ∀ x ∈ gp, x ∈ fp) : Elem b p fp wr w' cs := by
 have hk := m.block b h.lt hn
 exact ⟨Nat.lt_of_lt_of_le h.lt m.size, h.modF.trans (m.wider (fun x hx => List.mem_cons_of_mem _ (hs x hx))), fun i v hi => by rw [World.cell?_of_block hk]; exact h.cell i v hi, fun j hj => by rw [World.cell?_of_block hk]; exact h.other j hj, fun j => by rw [World.frozen?_of_block hk]; exact h.frozen j⟩
theorem Elem.set (h : Elem b p fp wr w cs) {i : Nat} (hi : i < cs.length) (v : Value) : Elem b p fp wr (w.setCell ⟨b, p + i, none⟩ v) (cs.set i v) := by
 refine ⟨by simpa using h.lt, h.modF.trans (ModF.set w (p := ⟨b, p + i, none⟩) (by simp) v), fun j u hj => ?_, fun j hj => ?_, fun j => by rw [World.frozen?_setCell]; exact h.frozen j⟩
 ·by_cases e : j = i
  ·subst e
   rw [List.getElem?_set_self hi] at hj
   injection hj with hj; subst hj
   exact World.cell?_setCell_same _ _ _ (h.cell j _ (List.getElem?_eq_getElem hi))
  ·rw [List.getElem?_set_ne (by omega)] at hj
   rw [World.cell?_setCell_other _ _ _ _ (by intro h; simp only [Addr.mk.injEq] at h; omega)]
   exact h.cell j u hj
 ·rw [List.length_set] at hj
  rw [World.cell?_setCell_other _ _ _ _ (by intro h; simp only [Addr.mk.injEq] at h; omega)]
  exact h.other j hj
theorem Elem.free (h : Elem b p fp wr w cs) (hf : ∀ i, i < cs.length → wr.frozen? ⟨b, p + i, none⟩ = false) {i : Nat} (hi : i < cs.length) : w.frozen? ⟨b, p + i, none⟩ = false := by rw [h.frozen]; exact hf i hi
end
theorem lvar_modF {w w' : World} {b : Nat} {cs : Array Value} {fp : List Nat} (h : Lvar w b cs) (m : ModF fp w w') (hb : b ∉ fp) : Lvar w' b cs := by
 have hl := h.lt
 obtain ⟨T, h⟩ := h
 exact ⟨T, by rw [m.block b hl hb]; exact h⟩

theorem results_row1 {P : Program} {f : Func} {p : Tmp} {ty : TypeId} (h : f.results = #[.cell p ty]) (tmps : Array Value) (W : World) (g : Nat) (cs : Array Value) {d : TypeDesc} (hp : tmps.getD p undef = .pointer (some ⟨g, 0, none⟩)) (hv : Lvar W g cs)
  (hu : P.underlying ty = some d) (hd : (match d with | .struct _ | .array _ _ => true | _ => false) = true) (hi : (P.info? ty).map (·.size) = some cs.size) : (results f tmps).run P W = .ok (.agg cs) W := by
 obtain ⟨T, hg⟩ := hv
 exact results_cell_row h tmps W g T cs (0, 0) d hp hg hu hd hi
theorem results_row2 {P : Program} {f : Func} {p u : Tmp} {ty : TypeId} (h : f.results = #[.cell p ty, .tmp u]) (tmps : Array Value) (W : World) (g : Nat) (cs : Array Value) {d : TypeDesc} {q : Value} (hp : tmps.getD p undef = .pointer (some ⟨g, 0, none⟩)) (hq : tmps.getD u undef = q) (hv : Lvar W g cs)
  (hu : P.underlying ty = some d) (hd : (match d with | .struct _ | .array _ _ => true | _ => false) = true) (hi : (P.info? ty).map (·.size) = some cs.size) : (results f tmps).run P W = .ok (.tuple #[.agg cs, q]) W := by
 obtain ⟨T, hg⟩ := hv
 rw [results_cell_tmp h, hp, hq]
 have hx := run_loadVar_row (P := P) W g T ty cs (0, 0) d hg hu hd hi
 simp [asAddr, hx, Result.andThen]

/-! Strings. -/
abbrev strs : Rep (List ByteArray) := Rep.slice Rep.str
def mkStr (k : Nat) (_ : ByteArray) : ByteArray := StrK.mt k
def nStr (_ : ByteArray) : Nat := 1
def szStr (s : ByteArray) : Nat := s.size
def WfStr (s : ByteArray) : Prop := s.size ≤ 9223372036854775807
theorem nStr_le (x : ByteArray) : nStr x ≤ 8 * (1 + szStr x) := by unfold nStr; omega
theorem nStrs : ∀ xs : List ByteArray, szs nStr xs = xs.length
 | [] => rfl
 | x :: xs => by rw [szs_cons, nStrs xs, List.length_cons]; unfold nStr; omega
theorem mksStr : ∀ (xs : List ByteArray) (k : Nat), mks mkStr nStr k xs = StrK.marks k xs.length := fun xs k => by
 refine List.ext_getElem (by rw [mks_len, StrK.marks_length]) (fun j h1 h2 => ?_)
 rw [mks_len] at h1
 rw [mks_at k xs h1]
 have h3 := StrK.marks_at (k := k) (n := xs.length) h1
 rw [List.getElem?_eq_getElem h2] at h3
 rw [Option.some.inj h3]
 unfold mkStr
 rw [nStrs, List.length_take, Nat.min_eq_left (by omega)]
def esOfS (zs : List ByteArray) : List (El ByteArray) := zs.map fun z => ([], [Value.string z], z)
theorem cells_esOfS : ∀ zs : List ByteArray, cells (esOfS zs) = zs.map Value.string
 | [] => rfl
 | z :: zs => by have := cells_esOfS zs; simp [cells, esOfS] at this ⊢; simpa [Function.comp_def] using this
theorem fps_esOfS : ∀ zs : List ByteArray, fps (esOfS zs) = []
 | [] => rfl
 | z :: zs => by have := fps_esOfS zs; simp [fps, esOfS] at this ⊢
theorem vals_esOfS (zs : List ByteArray) : vals (esOfS zs) = zs := by simp [vals, esOfS, Function.comp_def]
theorem str_cells {q : Bool} {w : World} : ∀ {es : List (El ByteArray)}, (∀ e ∈ es, Rep.str.rep q w e.1 e.2.1 e.2.2) → cells es = (vals es).map Value.string ∧ fps es = []
 | [], _ => ⟨rfl, rfl⟩
 | e :: es, h => by
  obtain ⟨h1, h2⟩ := str_cells (es := es) (fun e he => h e (List.mem_cons_of_mem _ he))
  obtain ⟨g1, g2⟩ := h e List.mem_cons_self
  unfold cells fps vals at *
  rw [List.flatMap_cons, List.flatMap_cons, h1, h2, g1, g2]
  simp
def fpS (A : Option Addr) (ss : List ByteArray) : List Nat := if ss = [] then [] else (A.map (·.block)).toList
theorem strs_open {q : Bool} {w : World} {fp : List Nat} {A : Option Addr} {n c : Nat} {ss : List ByteArray} (h : strs.rep q w fp [.slice A n c] ss) : StrK.SRow w A ss ∧ (q = true → StrK.Free w A ss.length) ∧ n = ss.length ∧ ss.length ≤ c ∧ fp = fpS A ss := by
 obtain ⟨A', c', e, hc, ⟨rfl, rfl⟩ | ⟨b, o, es, rfl, rfl, hne, rfl, hl, he, hr, hf⟩⟩ := h
 ·injection e with e _
  injection e with e1 e2 e3
  subst e1; subst e2; subst e3
  exact ⟨fun h => absurd rfl h, fun _ h => by simp at h, rfl, hc, by simp [fpS]⟩
 ·injection e with e _
  injection e with e1 e2 e3
  subst e1; subst e2; subst e3
  obtain ⟨h1, h2⟩ := str_cells he
  have hvn : vals es ≠ [] := fun e => hne (List.eq_nil_of_length_eq_zero (by rw [← vals_len, e]; rfl))
  rw [h1] at hr hf
  refine ⟨fun _ => ?_, fun hq => ?_, rfl, hc, by simp [fpS, hvn, h2]⟩
  ·obtain ⟨b', o', e, _, k2⟩ := hr (fun e => hvn (by simpa using e))
   injection e with e; injection e with e1 e2; subst e1; subst e2
   exact ⟨b, o, rfl, hl, fun j s hj => k2 j _ (by rw [List.getElem?_map, hj]; rfl)⟩
  ·have := hf hq
   rw [List.length_map] at this
   exact fun hp b' o' e j hj => this hp b' o' e j hj
theorem strs_close {q : Bool} {c : Nat} {w : World} {A : Option Addr} {ss : List ByteArray} (hr : StrK.SRow w A ss) (hf : q = true → StrK.Free w A ss.length) (hc : ss.length ≤ c) : strs.rep q w (fpS A ss) [.slice A ss.length c] ss := by
 by_cases h0 : ss = []
 ·subst h0
  exact ⟨A, c, rfl, hc, Or.inl ⟨rfl, by simp [fpS]⟩⟩
 ·obtain ⟨b, o, rfl, h1, h4⟩ := hr h0
  refine ⟨_, c, rfl, hc, Or.inr ⟨b, o, esOfS ss, rfl, (vals_esOfS ss).symm, fun e => h0 (by simpa [esOfS] using e), by rw [fps_esOfS]; simp [fpS, h0], h1, fun e he => ?_, ?_, fun hq => ?_⟩⟩
  ·obtain ⟨z, _, rfl⟩ := List.mem_map.1 he
   exact ⟨rfl, rfl⟩
  ·rw [cells_esOfS]
   refine fun _ => ⟨b, o, rfl, ⟨Nat.le_refl _, Nat.lt_succ_self _, by omega⟩, fun j v hj => ?_⟩
   rw [List.getElem?_map] at hj
   cases hs : ss[j]? with
   | none => rw [hs] at hj; cases hj
   | some s => rw [hs] at hj; injection hj with hj; subst hj; exact h4 j s hs
  ·rw [cells_esOfS, List.length_map]
   exact fun hp b' o' e j hj => hf hq hp b' o' e j hj
theorem fpS_nodup (A : Option Addr) (ss : List ByteArray) : (fpS A ss).Nodup := by
 unfold fpS
 split
 ·exact List.nodup_nil
 ·cases A <;> simp
theorem copyStringSU (q : Bool) (fp : List Nat) (A : Option Addr) (c : Nat) (xs : List ByteArray) (w : World) (hA : strs.rep q w fp [.slice A xs.length c] xs) (hl : xs.length + szs szStr xs ≤ 100000000) :
  Calls Tryz.prog 42 #[.slice A xs.length c] w (CopiedU Rep.str w xs) := by
 obtain ⟨h1, _, _, _, _⟩ := strs_open hA
 refine (StrK.copy A c xs w h1 (by omega)).mono fun e w' ⟨B, he, r1, f1, hb, hn⟩ => ⟨B, he, ?_, hb⟩
 refine ⟨Nat.le_refl _, _, strs_close r1 (fun _ => f1) (Nat.le_refl _), fpS_nodup _ _, fun b hb' => ?_⟩
 have hb2 := Rep.lt (Rep.slice Rep.str) (strs_close (q := true) r1 (fun _ => f1) (Nat.le_refl _)) b hb'
 refine ⟨?_, hb2⟩
 unfold fpS at hb'
 split at hb'
 ·cases hb'
 ·cases hB : B with
  | none => rw [hB] at hb'; cases hb'
  | some a =>
   rw [hB] at hb'
   simp at hb'
   rw [hb']
   exact hn a hB
theorem sizeStringSU (q : Bool) (fp : List Nat) (A : Option Addr) (c L : Nat) (xs : List ByteArray) (w : World) (hA : strs.rep q w fp [.slice A xs.length c] xs) (hL : L ≤ 1000000000) (hl : xs.length ≤ 9223372036854775807) (hs : ∀ x ∈ xs, WfStr x) :
  Calls Tryz.prog 41 #[.slice A xs.length c, .int .i64 L] w fun e w' => e = .returned (.int .i64 (IntK.leftOf L (xs.length + szs szStr xs))) ∧ Below w.heap.size w w' := by
 obtain ⟨h1, _, _, _, _⟩ := strs_open hA
 exact StrK.size A c L xs w h1 (by omega) hl hs
theorem eqStringSU (q q2 : Bool) (fp gp : List Nat) (A B : Option Addr) (c d : Nat) (xs : List ByteArray) (w : World) (hA : strs.rep q w fp [.slice A xs.length c] xs) (hB : strs.rep q2 w gp [.slice B xs.length d] xs) (hl : xs.length + szs szStr xs ≤ 100000000) :
  Calls Tryz.prog 35 #[.slice A xs.length c, .slice B xs.length d] w fun e w' => e = .returned (.bool true) ∧ Below w.heap.size w w' :=
 StrK.eq_same A B c d xs w (strs_open hA).1 (strs_open hB).1 (by omega)
theorem markStringSU (fp : List Nat) (A : Option Addr) (c k0 : Nat) (xs : List ByteArray) (w : World) (hA : strs.rep true w fp [.slice A xs.length c] xs) (_hn : fp.Nodup) (h1 : 1 ≤ k0) (hk : k0 + 8 * (xs.length + szs szStr xs) ≤ 1000000000) :
  Calls Tryz.prog 36 #[.slice A xs.length c, .int .i64 k0] w (MarkedU Rep.str mkStr nStr fp w A c k0 xs) := by
 obtain ⟨r1, f1, _, hc, rfl⟩ := strs_open hA
 refine (StrK.mark2 A c k0 xs w r1 (f1 rfl) h1 (by omega)).mono fun e w' ⟨he, r2, ho, f2⟩ => ⟨by rw [he, nStrs]; simp, ?_, ⟨ho.os, ho.tape, ho.output, ho.size, fun i hi hn => ho.block i hi (fun e => hn ?_)⟩⟩
 ·rw [mksStr]
  have h3 := strs_close (q := true) (c := c) r2 (fun _ => by rw [StrK.marks_length]; exact f2) (by rw [StrK.marks_length]; exact hc)
  rw [StrK.marks_length] at h3
  have e2 : fpS A (StrK.marks k0 xs.length) = fpS A xs := by
   unfold fpS
   have : StrK.marks k0 xs.length = [] ↔ xs = [] := by
    constructor
    ·intro h
     have := congrArg List.length h
     rw [StrK.marks_length] at this
     exact List.eq_nil_of_length_eq_zero this
    ·rintro rfl; rfl
   simp only [this]
  rw [e2] at h3
  exact h3
 ·unfold StrK.blk at e
  unfold fpS
  split at e
  ·cases e
  ·rename_i hne
   rw [if_neg hne, ← e]
   simp
theorem heldStringSU (q : Bool) (fp : List Nat) (A : Option Addr) (c k0 : Nat) (xs : List ByteArray) (w : World) (hA : strs.rep q w fp [.slice A xs.length c] (mks mkStr nStr k0 xs)) (h1 : 1 ≤ k0) (hk : k0 + 8 * (xs.length + szs szStr xs) ≤ 1000000000) :
  Calls Tryz.prog 37 #[.slice A xs.length c, .int .i64 k0] w fun e w' => e = .returned (.int .i64 ((k0 + szs nStr xs : Nat) : Int)) ∧ Below w.heap.size w w' := by
 obtain ⟨r1, _⟩ := strs_open hA
 rw [mksStr] at r1
 exact (StrK.held A c k0 xs.length w r1 h1 (by omega)).mono fun e w' ⟨he, hb⟩ => ⟨by rw [he, nStrs]; simp, hb⟩
theorem strInfoU : (Tryz.prog.info? 9).map (fun i => (i.zero, i.size, i.bytes)) = some (some (.string ByteArray.empty), 1, 16) := StrK.strInfo

/-! Expressions. -/
def mkLin (k : Nat) (x : Int × List Int) : Int × List Int := ((k : Int), IntK.marks (k + 1) x.2.length)
def nLin (x : Int × List Int) : Nat := 1 + x.2.length
def szLin (x : Int × List Int) : Nat := x.2.length
def WfLinU (x : Int × List Int) : Prop := (Lit.int .i64 x.1).wf = true ∧ x.2.length ≤ 9223372036854775807 ∧ ∀ z ∈ x.2, (Lit.int .i64 z).wf = true
theorem nLin_le (x : Int × List Int) : nLin x ≤ 8 * (1 + szLin x) := by unfold nLin szLin; omega
theorem nLins : ∀ xs : List (Int × List Int), szs nLin xs = linsSize xs
 | [] => rfl
 | x :: xs => by rw [szs_cons, nLins xs, linsSize_cons]; unfold nLin; omega
theorem linsSize_szs (xs : List (Int × List Int)) : linsSize xs = xs.length + szs szLin xs := rfl
theorem mksLin : ∀ (xs : List (Int × List Int)) (k : Nat), mks mkLin nLin k xs = marksL k xs
 | [], _ => rfl
 | x :: xs, k => by rw [mks, marksL, mksLin xs, show k + nLin x = k + 1 + x.2.length by unfold nLin; omega]; rfl
theorem copyLinSU (q : Bool) (fp : List Nat) (A : Option Addr) (c : Nat) (xs : List (Int × List Int)) (w : World) (hA : lins.rep q w fp [.slice A xs.length c] xs) (hl : xs.length + szs szLin xs ≤ 100000000) :
  Calls Tryz.prog 148 #[.slice A xs.length c] w (CopiedU lin w xs) := by
 refine (copyS q fp A c xs w hA (by rw [linsSize_szs]; omega)).mono fun e w' ⟨B, he, hN, hb⟩ => ⟨B, he, OwnR.of_new hN, hb⟩
theorem sizeLinSU (q : Bool) (fp : List Nat) (A : Option Addr) (c L : Nat) (xs : List (Int × List Int)) (w : World) (hA : lins.rep q w fp [.slice A xs.length c] xs) (hL : L ≤ 1000000000) (hl : xs.length ≤ 9223372036854775807) (hs : ∀ x ∈ xs, WfLinU x) :
  Calls Tryz.prog 143 #[.slice A xs.length c, .int .i64 L] w fun e w' => e = .returned (.int .i64 (IntK.leftOf L (xs.length + szs szLin xs))) ∧ Below w.heap.size w w' :=
 sizeS q fp A c L xs w hA hL hl (fun x hx => (hs x hx).2.1)
theorem eqLinSU (q q2 : Bool) (fp gp : List Nat) (A B : Option Addr) (c d : Nat) (xs : List (Int × List Int)) (w : World) (hA : lins.rep q w fp [.slice A xs.length c] xs) (hB : lins.rep q2 w gp [.slice B xs.length d] xs) (hl : xs.length + szs szLin xs ≤ 100000000) :
  Calls Tryz.prog 153 #[.slice A xs.length c, .slice B xs.length d] w fun e w' => e = .returned (.bool true) ∧ Below w.heap.size w w' :=
 eqS q q2 fp gp A B c d xs w hA hB (by rw [linsSize_szs]; omega)
theorem markLinSU (fp : List Nat) (A : Option Addr) (c k0 : Nat) (xs : List (Int × List Int)) (w : World) (hA : lins.rep true w fp [.slice A xs.length c] xs) (hn : fp.Nodup) (_h1 : 1 ≤ k0) (hk : k0 + 8 * (xs.length + szs szLin xs) ≤ 1000000000) :
  Calls Tryz.prog 111 #[.slice A xs.length c, .int .i64 k0] w (MarkedU lin mkLin nLin fp w A c k0 xs) :=
 (markS fp A c k0 xs w hA hn (by rw [linsSize_szs]; omega) (by omega)).mono fun e w' ⟨he, hr, hm⟩ => ⟨by rw [he, nLins]; simp, by rw [mksLin]; exact hr, hm⟩
/-! Sums. -/
abbrev szSum : SumT → Nat := ssz
theorem nSum_le (x : SumT) : nSum x ≤ 8 * (1 + szSum x) := by
 have := nTerms x.2
 unfold nSum szSum ssz termsSize
 omega
theorem copySumSU (q : Bool) (fp : List Nat) (A : Option Addr) (c : Nat) (xs : List SumT) (w : World) (hA : sums.rep q w fp [.slice A xs.length c] xs) (hl : xs.length + szs szSum xs ≤ 100000000) :
  Calls Tryz.prog 150 #[.slice A xs.length c] w (CopiedU sum w xs) := by
 have : szs ssl xs ≤ szs szSum xs := ssl_le xs
 exact (copySumS q fp A c xs w hA (by omega)).mono fun e w' ⟨B, he, hN, hb⟩ => ⟨B, he, OwnR.of_new hN, hb⟩
theorem sizeSumSU (q : Bool) (fp : List Nat) (A : Option Addr) (c L : Nat) (xs : List SumT) (w : World) (hA : sums.rep q w fp [.slice A xs.length c] xs) (hL : L ≤ 1000000000) (hl : xs.length ≤ 9223372036854775807) (hs : ∀ x ∈ xs, WfSum x) :
  Calls Tryz.prog 145 #[.slice A xs.length c, .int .i64 L] w fun e w' => e = .returned (.int .i64 (IntK.leftOf L (xs.length + szs szSum xs))) ∧ Below w.heap.size w w' :=
 sizeSumS q fp A c L xs w hA hL hl hs
theorem eqSumSU (q q2 : Bool) (fp gp : List Nat) (A B : Option Addr) (c d : Nat) (xs : List SumT) (w : World) (hA : sums.rep q w fp [.slice A xs.length c] xs) (hB : sums.rep q2 w gp [.slice B xs.length d] xs) (hl : xs.length + szs szSum xs ≤ 100000000) :
  Calls Tryz.prog 155 #[.slice A xs.length c, .slice B xs.length d] w fun e w' => e = .returned (.bool true) ∧ Below w.heap.size w w' := by
 have : szs ssl xs ≤ szs szSum xs := ssl_le xs
 exact eqSumS q q2 fp gp A B c d xs w hA hB (by omega)
theorem markSumSU (fp : List Nat) (A : Option Addr) (c k0 : Nat) (xs : List SumT) (w : World) (hA : sums.rep true w fp [.slice A xs.length c] xs) (hn : fp.Nodup) (h1 : 1 ≤ k0) (hk : k0 + 8 * (xs.length + szs szSum xs) ≤ 1000000000) :
  Calls Tryz.prog 113 #[.slice A xs.length c, .int .i64 k0] w (MarkedU sum mkSum nSum fp w A c k0 xs) := by
 have : szs ssl xs ≤ szs szSum xs := ssl_le xs
 exact (markSumS fp A c k0 xs w hA hn (by omega) h1 (by omega)).mono fun e w' ⟨he, hr, hm⟩ => ⟨by rw [he]; simp, hr, hm⟩
end Mem
end Go.Proofs.YtbbllkhmenpnlaaGreat
