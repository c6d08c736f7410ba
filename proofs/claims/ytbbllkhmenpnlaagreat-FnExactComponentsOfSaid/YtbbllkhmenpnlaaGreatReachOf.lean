import Derived.Test.YtbbllkhmenpnlaaGreatProg
import Derived.Test.YtbbllkhmenpnlaaGreatNameOps
import Derived.Test.YtbbllkhmenpnlaaGreatRepGen
import Derived.Test.YtbbllkhmenpnlaaGreatArgMath
import Derived.Maps.RangeWalk
import Derived.Maps.OwnSet
import Derived.Test.YtbbllkhmenpnlaaGreatEdgeI2
/-
  What is reached in a graph of names; components, and their order.
-/
namespace Go.Proofs.YtbbllkhmenpnlaaGreat
namespace GraphM
abbrev Nm := List ByteArray
abbrev Arrows := List (ByteArray × ByteArray)
inductive Rch (G : Arrows) (a : ByteArray) : ByteArray → Prop
 | refl : Rch G a a
 | step {b c : ByteArray} : Rch G a b → (b, c) ∈ G → Rch G a c
theorem Rch.trans {G : Arrows} {a b c : ByteArray} (h : Rch G a b) (k : Rch G b c) : Rch G a c := by
 induction k with
 | refl => exact h
 | step _ h2 ih => exact ih.step h2
theorem Rch.closed {G : Arrows} {a x : ByteArray} {P : ByteArray → Prop} (h : Rch G a x) (h0 : P a) (h1 : ∀ b c, (b, c) ∈ G → P b → P c) : P x := by
 induction h with
 | refl => exact h0
 | step _ h2 ih => exact h1 _ _ h2 ih
open Classical in
noncomputable def rchL (ns : Nm) (G : Arrows) (a : ByteArray) : Nm := if a ∈ ns then ns.filter (fun x => decide (Rch G a x)) else []
theorem mem_rchL {ns : Nm} {G : Arrows} {a x : ByteArray} : x ∈ rchL ns G a ↔ a ∈ ns ∧ x ∈ ns ∧ Rch G a x := by
 unfold rchL
 split
 ·rename_i h
  rw [List.mem_filter]
  simp [h]
 ·rename_i h
  simp [h]
theorem rchL_of {ns : Nm} {G : Arrows} {a : ByteArray} {p : ByteArray → Bool} (ha : a ∈ ns) (h : ∀ x ∈ ns, p x = true ↔ Rch G a x) : ns.filter p = rchL ns G a := by
 unfold rchL
 rw [if_pos ha]
 refine List.filter_congr fun x hx => ?_
 rw [Bool.eq_iff_iff, h x hx]
 simp
theorem rchL_open {ns : Nm} {G : Arrows} {a : ByteArray} {S : ByteArray → Bool} (ha : a ∈ ns) (h0 : S a = false) (h1 : ∀ x ∈ ns, S x = false → Rch G a x) (h2 : ∀ b c, (b, c) ∈ G → S b = false → S c = false) : ns.filter (fun x => !S x) = rchL ns G a := by
 refine rchL_of ha fun x hx => ?_
 rw [Bool.not_eq_true']
 exact ⟨h1 x hx, fun h => h.closed (P := fun z => S z = false) h0 h2⟩
theorem rchL_none {ns : Nm} {G : Arrows} {a : ByteArray} (ha : a ∉ ns) : rchL ns G a = [] := by unfold rchL; rw [if_neg ha]
theorem rchL_sub {ns : Nm} {G : Arrows} {a : ByteArray} : (rchL ns G a).Sublist ns := by
 unfold rchL
 split
 ·exact List.filter_sublist
 ·exact List.nil_sublist _
theorem rchL_len {ns : Nm} {G : Arrows} {a : ByteArray} : (rchL ns G a).length ≤ ns.length := rchL_sub.length_le
theorem rchL_self {ns : Nm} {G : Arrows} {a : ByteArray} (h : a ∈ ns) : a ∈ rchL ns G a := mem_rchL.2 ⟨h, h, .refl⟩
open Classical in
noncomputable def compL (ns : Nm) (G : Arrows) (a : ByteArray) : Nm := (rchL ns G a).filter fun x => decide (a ∈ rchL ns G x)
theorem mem_compL {ns : Nm} {G : Arrows} {a x : ByteArray} : x ∈ compL ns G a ↔ a ∈ ns ∧ x ∈ ns ∧ Rch G a x ∧ Rch G x a := by
 unfold compL
 rw [List.mem_filter, mem_rchL]
 simp only [decide_eq_true_eq, mem_rchL]
 constructor
 ·rintro ⟨⟨h1, h2, h3⟩, _, _, h4⟩; exact ⟨h1, h2, h3, h4⟩
 ·rintro ⟨h1, h2, h3, h4⟩; exact ⟨⟨h1, h2, h3⟩, h2, h1, h4⟩
theorem compL_sub {ns : Nm} {G : Arrows} {a : ByteArray} : (compL ns G a).Sublist ns := List.Sublist.trans List.filter_sublist rchL_sub
theorem compL_len {ns : Nm} {G : Arrows} {a : ByteArray} : (compL ns G a).length ≤ ns.length := compL_sub.length_le
theorem compL_self {ns : Nm} {G : Arrows} {a : ByteArray} (h : a ∈ ns) : a ∈ compL ns G a := mem_compL.2 ⟨h, h, .refl, .refl⟩
theorem compL_of {ns : Nm} {G : Arrows} {a : ByteArray} {p : ByteArray → Bool} (h : ∀ x ∈ ns, p x = true ↔ a ∈ rchL ns G x) : (rchL ns G a).filter p = compL ns G a := by
 unfold compL
 refine List.filter_congr fun x hx => ?_
 rw [Bool.eq_iff_iff, h x (mem_rchL.1 hx).2.1]
 simp
theorem rchL_comp {ns : Nm} {G : Arrows} {a b : ByteArray} (h : b ∈ compL ns G a) : rchL ns G b = rchL ns G a := by
 obtain ⟨h1, h2, h3, h4⟩ := mem_compL.1 h
 rw [← rchL_of h1 (p := fun x => @decide (Rch G a x) (Classical.propDecidable _)) (fun x _ => by simp)]
 exact (rchL_of h2 (fun x hx => by simp only [decide_eq_true_eq]; exact ⟨fun k => h4.trans k, fun k => h3.trans k⟩)).symm
open Classical in
noncomputable def okC (ns : Nm) (G : Arrows) (done : Nm) (a : ByteArray) : Bool := decide (a ∉ done ∧ ∀ y ∈ rchL ns G a, y ∈ compL ns G a ∨ y ∈ done)
open Classical in
theorem okC_iff {ns : Nm} {G : Arrows} {done : Nm} {a : ByteArray} : okC ns G done a = true ↔ a ∉ done ∧ ∀ y ∈ rchL ns G a, y ∈ compL ns G a ∨ y ∈ done := by
 unfold okC
 rw [decide_eq_true_eq]
theorem okC_some {ns : Nm} {G : Arrows} {done : Nm} : ∀ (n : Nat) (a : ByteArray), (rchL ns G a).length ≤ n → a ∈ ns → a ∉ done → ∃ b ∈ ns, okC ns G done b = true
 | 0, a, hn, ha, _ => by
  have h := rchL_self (G := G) ha
  rw [List.length_eq_zero_iff.1 (Nat.le_zero.1 hn)] at h
  cases h
 | n + 1, a, hn, ha, hd => by
  by_cases h : okC ns G done a = true
  ·exact ⟨a, ha, h⟩
  ·have h3 : ∃ y ∈ rchL ns G a, y ∉ compL ns G a ∧ y ∉ done := Classical.byContradiction fun hc => h (okC_iff.2 ⟨hd, fun y hy => Classical.byContradiction fun h4 => hc ⟨y, hy, fun h5 => h4 (Or.inl h5), fun h5 => h4 (Or.inr h5)⟩⟩)
   obtain ⟨y, hy, h4, h5⟩ := h3
   obtain ⟨_, hyn, hay⟩ := mem_rchL.1 hy
   have hsub : (rchL ns G y).Sublist (rchL ns G a) := by
    have e1 : rchL ns G y = (rchL ns G a).filter (fun x => @decide (Rch G y x) (Classical.propDecidable _)) := by
     unfold rchL
     rw [if_pos ha, if_pos hyn, List.filter_filter]
     refine List.filter_congr fun x _ => ?_
     rw [Bool.eq_iff_iff]
     simp only [decide_eq_true_eq, Bool.and_eq_true]
     exact ⟨fun k => ⟨k, hay.trans k⟩, fun k => k.1⟩
    rw [e1]
    exact List.filter_sublist
   have hlt : (rchL ns G y).length < (rchL ns G a).length := by
    have h6 := hsub.length_le
    refine Nat.lt_of_le_of_ne h6 fun e => ?_
    have h7 := hsub.eq_of_length e
    have h8 : a ∈ rchL ns G y := by rw [h7]; exact rchL_self ha
    exact h4 (mem_compL.2 ⟨ha, hyn, hay, (mem_rchL.1 h8).2.2⟩)
   exact okC_some n y (by omega) hyn h5
noncomputable def nextC (ns : Nm) (G : Arrows) (done : Nm) : Option Nm := (ns.find? (okC ns G done)).map (compL ns G)
theorem nextC_some {ns : Nm} {G : Arrows} {done : Nm} (h : ∃ a ∈ ns, a ∉ done) : ∃ b ∈ ns, okC ns G done b = true ∧ nextC ns G done = some (compL ns G b) := by
 obtain ⟨a, ha, hd⟩ := h
 obtain ⟨b, hb, hk⟩ := okC_some _ a (Nat.le_refl _) ha hd
 cases hf : ns.find? (okC ns G done) with
 | none => exact absurd hk (by simpa using List.find?_eq_none.1 hf b hb)
 | some c => exact ⟨c, List.mem_of_find?_eq_some hf, List.find?_some hf, by unfold nextC; rw [hf]; rfl⟩
noncomputable def compsL (ns : Nm) (G : Arrows) : Nat → Nm → List Nm
 | 0, _ => []
 | n + 1, done => match nextC ns G done with | none => [] | some c => c :: compsL ns G n (done ++ c)
open Classical in
noncomputable def leftN (ns : Nm) (done : Nm) : Nat := (ns.filter fun x => !decide (x ∈ done)).length
open Classical in
theorem leftN_zero {ns done : Nm} : leftN ns done = 0 ↔ ∀ a ∈ ns, a ∈ done := by
 unfold leftN
 rw [List.length_eq_zero_iff, List.filter_eq_nil_iff]
 simp
open Classical in
theorem leftN_lt {ns done c : Nm} {a : ByteArray} (ha : a ∈ ns) (hd : a ∉ done) (hc : a ∈ c) : leftN ns (done ++ c) < leftN ns done := by
 have hsub : (ns.filter fun x => !decide (x ∈ done ++ c)).Sublist (ns.filter fun x => !decide (x ∈ done)) := by
  have e1 : (ns.filter fun x => !decide (x ∈ done ++ c)) = (ns.filter fun x => !decide (x ∈ done)).filter fun x => !decide (x ∈ c) := by
   rw [List.filter_filter]
   refine List.filter_congr fun x _ => ?_
   by_cases h1 : x ∈ done <;> by_cases h2 : x ∈ c <;> simp [h1, h2]
  rw [e1]
  exact List.filter_sublist
 refine Nat.lt_of_le_of_ne hsub.length_le fun e => ?_
 have h7 := hsub.eq_of_length e
 have h8 : a ∈ ns.filter fun x => !decide (x ∈ done ++ c) := by rw [h7, List.mem_filter]; exact ⟨ha, by simp [hd]⟩
 rw [List.mem_filter] at h8
 simp [hc] at h8
theorem compsL_done {ns : Nm} {G : Arrows} {done : Nm} (h : ∀ a ∈ ns, a ∈ done) : ∀ n, compsL ns G n done = []
 | 0 => rfl
 | n + 1 => by
  have h1 : ns.find? (okC ns G done) = none := List.find?_eq_none.2 fun x hx h2 => (okC_iff.1 h2).1 (h x hx)
  unfold compsL nextC
  rw [h1]
  rfl
theorem compsL_fuel {ns : Nm} {G : Arrows} : ∀ (n m : Nat) (done : Nm), leftN ns done ≤ n → leftN ns done ≤ m → compsL ns G n done = compsL ns G m done := by
 intro n
 induction n with
 | zero =>
  intro m done hn _
  rw [compsL_done (leftN_zero.1 (Nat.le_zero.1 hn)), compsL_done (leftN_zero.1 (Nat.le_zero.1 hn))]
 | succ n ih =>
  intro m done hn hm
  by_cases h0 : leftN ns done = 0
  ·rw [compsL_done (leftN_zero.1 h0), compsL_done (leftN_zero.1 h0)]
  ·obtain ⟨a, ha, hd⟩ : ∃ a ∈ ns, a ∉ done := Classical.byContradiction fun hc => h0 (leftN_zero.2 fun a ha => Classical.byContradiction fun h => hc ⟨a, ha, h⟩)
   obtain ⟨b, hb, hk, he⟩ := nextC_some (G := G) ⟨a, ha, hd⟩
   have hl := leftN_lt hb (okC_iff.1 hk).1 (compL_self (G := G) hb)
   cases m with
   | zero => omega
   | succ m =>
    unfold compsL
    rw [he]
    simp only
    rw [ih m (done ++ compL ns G b) (by omega) (by omega)]
noncomputable def compsA (ns : Nm) (G : Arrows) : List Nm := compsL ns G ns.length []
theorem compsL_step {ns : Nm} {G : Arrows} {done : Nm} {b : ByteArray} {n : Nat} (h : leftN ns done ≤ n) (hb : b ∈ ns) (hd : b ∉ done) (he : nextC ns G done = some (compL ns G b)) : compsL ns G n done = compL ns G b :: compsL ns G n (done ++ compL ns G b) := by
 have hl := leftN_lt hb hd (compL_self (G := G) hb)
 cases n with
 | zero => omega
 | succ n =>
  rw [compsL_fuel (n + 1) n (done ++ compL ns G b) (by omega) (by omega)]
  conv => lhs; unfold compsL
  rw [he]
theorem leftN_le (ns done : Nm) : leftN ns done ≤ ns.length := List.length_filter_le _ _
end GraphM
end Go.Proofs.YtbbllkhmenpnlaaGreat

/-
  A set of names as a map[string]bool of the call's own, of a type with a name: who is in it, how many; store, delete, look-up, ranging.
-/
namespace Go.Proofs.YtbbllkhmenpnlaaGreat
open Go.RowKit Go.WideMaps Go.Maps
namespace MapK
def OpenD (D : DataW Unit) (f : ByteArray → Bool) (n : Nat) : Prop :=
 Tidy D ∧ size D = n ∧ (∀ s : ByteArray, has D (.string s.data.toList) = f s) ∧ ∀ s : ByteArray, D.atKey (.string s.data.toList) (.lit (.bool false)) = .lit (.bool (f s))
theorem openD_nil : OpenD (.map []) (fun _ => false) 0 := ⟨tidy_empty, rfl, fun _ => rfl, fun _ => rfl⟩
def putF (f : ByteArray → Bool) (s x : ByteArray) : Bool := if x.data.toList = s.data.toList then true else f x
def delF (f : ByteArray → Bool) (s x : ByteArray) : Bool := if x.data.toList = s.data.toList then false else f x
theorem putF_iff {f : ByteArray → Bool} {s x : ByteArray} : putF f s x = true ↔ x = s ∨ f x = true := by
 unfold putF
 by_cases h : x.data.toList = s.data.toList
 ·rw [if_pos h]; simp [NameM.toList_inj h]
 ·rw [if_neg h]
  exact ⟨Or.inr, fun k => k.resolve_left (fun e => h (by rw [e]))⟩
theorem delF_iff {f : ByteArray → Bool} {s x : ByteArray} : delF f s x = true ↔ x ≠ s ∧ f x = true := by
 unfold delF
 by_cases h : x.data.toList = s.data.toList
 ·rw [if_pos h]; simp [NameM.toList_inj h]
 ·rw [if_neg h]
  exact ⟨fun k => ⟨fun e => h (by rw [e]), k⟩, fun k => k.2⟩
theorem lit_ne {x s : ByteArray} (h : x.data.toList ≠ s.data.toList) : Lit.string x.data.toList ≠ Lit.string s.data.toList := fun e => h (Lit.string.inj e)
theorem OpenD.put {D : DataW Unit} {f : ByteArray → Bool} {n : Nat} (h : OpenD D f n) (s : ByteArray) : OpenD (D.put (.string s.data.toList) (.lit (.bool true))) (putF f s) (if f s then n else n + 1) := by
 obtain ⟨h1, h2, h3, h4⟩ := h
 refine ⟨h1.put (by trivial) _, by rw [size_put h1, h3, h2], fun x => ?_, fun x => ?_⟩
 ·unfold putF
  by_cases e : x.data.toList = s.data.toList
  ·rw [if_pos e, e]; exact has_put_same h1.isMap (by trivial) _
  ·rw [if_neg e, has_put_other (lit_ne e)]; exact h3 x
 ·unfold putF
  by_cases e : x.data.toList = s.data.toList
  ·rw [if_pos e, e]; exact atKey_put_same h1.isMap (by trivial) _ _
  ·rw [if_neg e, atKey_put_other (lit_ne e)]; exact h4 x
theorem OpenD.del {D : DataW Unit} {f : ByteArray → Bool} {n : Nat} (h : OpenD D f n) (s : ByteArray) : ∃ m, OpenD (D.del (.string s.data.toList)) (delF f s) m ∧ m + (if f s then 1 else 0) = n := by
 obtain ⟨h1, h2, h3, h4⟩ := h
 refine ⟨_, ⟨h1.del _, rfl, fun x => ?_, fun x => ?_⟩, by rw [← h3 s, size_del h1, h2]⟩
 ·unfold delF
  by_cases e : x.data.toList = s.data.toList
  ·rw [if_pos e, e]; exact has_del_same
  ·rw [if_neg e, has_del_other (lit_ne e)]; exact h3 x
 ·unfold delF
  by_cases e : x.data.toList = s.data.toList
  ·rw [if_pos e, e]; exact atKey_del_same _
  ·rw [if_neg e, atKey_del_other (lit_ne e)]; exact h4 x
def MapO (w : World) (b : Nat) (f : ByteArray → Bool) (n : Nat) : Prop := ∃ (D : DataW Unit) (N : Nat), w.ownsMap Tryz.prog 9 (plainElem Tryz.prog 4) b N D ∧ N ≤ 1000000000 ∧ OpenD D f n
def RangeO (w : World) (b r : Nat) (f : ByteArray → Bool) (n : Nat) (left : Lit → Bool) (cnt : Nat) : Prop := ∃ (D : DataW Unit) (N : Nat), w.ranges Tryz.prog 9 (plainElem Tryz.prog 4) b r N D left cnt ∧ N ≤ 1000000000 ∧ OpenD D f n
section
variable {w w' : World} {b r n cnt : Nat} {f : ByteArray → Bool} {left : Lit → Bool}
theorem MapO.lt (h : MapO w b f n) : b < w.heap.size := by
 obtain ⟨D, N, h, _⟩ := h
 exact h.lt
theorem MapO.grown {row : Option Nat} (h : MapO w b f n) (hg : w.grownBy w' row) (hr : row ≠ some b) : MapO w' b f n := by
 obtain ⟨D, N, h1, h2⟩ := h
 exact ⟨D, N, h1.kept hg (fun e => hr e.symm), h2⟩
theorem MapO.below (h : MapO w b f n) (hb : Below w.heap.size w w') : MapO w' b f n := by
 obtain ⟨D, N, h1, h2⟩ := h
 exact ⟨D, N, h1.kept (row := none) ⟨hb.os, hb.tape, hb.output, hb.size, fun i hi _ => hb.block i hi⟩ (by simp), h2⟩
theorem RangeO.map (h : RangeO w b r f n left cnt) : MapO w b f n := by
 obtain ⟨D, N, h1, h2⟩ := h
 exact ⟨D, N, h1.owns, h2⟩
theorem RangeO.left_eq (h : RangeO w b r f n left cnt) : w.rangeLeft b r = cnt := by
 obtain ⟨D, N, h1, h2⟩ := h
 exact h1.left_eq
theorem RangeO.lt (h : RangeO w b r f n left cnt) : r < w.heap.size := by
 obtain ⟨D, N, h1, h2⟩ := h
 exact h1.lt
theorem RangeO.below (h : RangeO w b r f n left cnt) (hb : Below w.heap.size w w') : RangeO w' b r f n left cnt := by
 obtain ⟨D, N, h1, h2⟩ := h
 exact ⟨D, N, h1.kept (row := none) ⟨hb.os, hb.tape, hb.output, hb.size, fun i hi _ => hb.block i hi⟩ (by simp) (by simp), h2⟩
theorem map_size (h : MapO w b f n) : n ≤ 1000000000 := by
 obtain ⟨D, N, h1, h2, _, h3, _⟩ := h
 have := h1.size_le
 omega
def mapSize (w : World) (b : Nat) : Nat := match w.heap[b]? with | some (.map es _) => es.size | _ => 0
theorem MapO.size_eq (h : MapO w b f n) : mapSize w b = n := by
 obtain ⟨D, N, ⟨es, clock, h1, _, _, rfl⟩, _, _, h3, _⟩ := h
 unfold mapSize
 rw [h1, ← h3]
 simp [Maps.size, length_sorted]
theorem key_inv {key : Value} {kl : Lit} (h : keyOf Tryz.prog 9 key = some kl) : ∃ s : ByteArray, key = .string s ∧ kl = .string s.data.toList ∧ s.size ≤ maxLen := by
 cases key <;> simp [keyOf, Tryz.underlying9, mapKey] at h
 obtain ⟨h1, rfl⟩ := h
 exact ⟨_, rfl, rfl, h1⟩
theorem MapO.zero (h : MapO w b f 0) (s : ByteArray) : f s = false := by
 obtain ⟨D, N, _, _, ⟨es, rfl, _⟩, h3, h4, _⟩ := h
 rw [← h4 s]
 have : es = [] := List.eq_nil_of_length_eq_zero h3
 subst this
 rfl
theorem MapO.someone (h : MapO w b f n) (hn : 0 < n) : ∃ s, f s = true := by
 obtain ⟨D, N, ⟨es, clock, h1, F, _, rfl⟩, _, _, h3, h4, _⟩ := h
 have hk : ∀ p ∈ (es.toList.map (WideElems.rg Tryz.prog 9 (plainElem (H := Unit) Tryz.prog 4))).foldr DataW.insert [], ∃ l, p.1 = Lit.string l := fun p hp => by
  obtain ⟨v, hv⟩ := fit_keys F p (mem_sorted.1 hp)
  obtain ⟨s, _, e, _⟩ := key_inv hv
  exact ⟨_, e⟩
 generalize (es.toList.map (WideElems.rg Tryz.prog 9 (plainElem (H := Unit) Tryz.prog 4))).foldr DataW.insert [] = L at *
 cases L with
 | nil => simp [Maps.size] at h3; omega
 | cons p L =>
  obtain ⟨l, hl⟩ := hk p List.mem_cons_self
  refine ⟨⟨l.toArray⟩, ?_⟩
  rw [← h4]
  rw [has_eq, List.any_cons, hl, WideAt.sameKey_self (by trivial), Bool.true_or]
theorem MapO.look (h : MapO w b f n) (s : ByteArray) (hs : s.size ≤ maxLen) : (Instr.lookup 74 (.map (some b)) (.string s) false).run Tryz.prog w = .ok (.bool (f s)) w := by
 obtain ⟨D, N, hown, _, _, _, _, hf⟩ := h
 obtain ⟨v, ps, hrun, hv⟩ := hown.lookup law Tryz.underlying74 (zeroB w) (plainB false) (keyOf_string_mk Tryz.underlying9 hs)
 rw [hf] at hv
 rw [hrun, plainB_inv hv]
theorem MapO.store (h : MapO w b f n) (hn : n < 100000000) (s : ByteArray) (hs : s.size ≤ maxLen) :
  ∃ w', (Instr.mapUpdate 74 (.map (some b)) (.string s) (.bool true)).run Tryz.prog w = .ok () w' ∧ MapO w' b (putF f s) (if f s then n else n + 1) ∧ w.grownBy w' (some b) := by
 obtain ⟨D, N, hown, hN, h1, h2, h3⟩ := h
 obtain ⟨es, clock, a1, a2, a3, a4⟩ := hown
 have hes : es.size = n := by rw [← h2, a4]; simp [Maps.size, length_sorted]
 have hown2 : w.ownsMap Tryz.prog 9 (plainElem Tryz.prog 4) b n D := ⟨es, clock, a1, a2, by omega, a4⟩
 obtain ⟨w', hrun, r1, r2⟩ := hown2.update law Tryz.underlying74 (by unfold maxLen; omega) (keyOf_string_mk Tryz.underlying9 hs) (plainB true)
 exact ⟨w', hrun, ⟨_, n + 1, r1, by omega, OpenD.put ⟨h1, h2, h3⟩ s⟩, r2⟩
theorem madeO (w : World) : MapO (w.alloc (.map #[] 0)) w.heap.size (fun _ => false) 0 := ⟨_, 0, World.ownsMap_made _ _ _ _, by omega, openD_nil⟩
end
section
variable {w : World} {ops : Array Oper} {rest : List Oper} {o : Oper} {a : Act} {Q : Exit → Act → World → Prop} {b r n cnt : Nat} {f : ByteArray → Bool} {left : Lit → Bool}
theorem at_del (hg : o.guard = none) (m x : Operand) (hop : o.op = Op.call { callee := Callee.builtin Builtin.delete, args := #[m, x], argTypes := #[74, 9] })
  (hm : a.eval m = .map (some b)) (h : MapO w b f n) (s : ByteArray) (hx : a.eval x = .string s) (hs : s.size ≤ maxLen)
  (hK : ∀ w' n', MapO w' b (delF f s) n' → n' + (if f s then 1 else 0) = n → w.grownBy w' (some b) → w'.heap.size = w.heap.size → wpList Tryz.prog ops Q rest (a.put o.dst (.tuple #[])) w') :
  wpList Tryz.prog ops Q (o :: rest) a w := by
 obtain ⟨D, N, hown, hN, hD⟩ := h
 refine wpList_delete_own w hg m x _ _ hop _ law Tryz.underlying74 _ b N D hm hown (.string s) (.string s.data.toList) hx (keyOf_string_mk Tryz.underlying9 hs) (fun w' r1 r2 => ?_)
 obtain ⟨n', h1, h2⟩ := hD.del s
 refine hK w' n' ⟨_, N, r1, hN, h1⟩ h2 r2.grown ?_
 obtain ⟨es, clock, es', clock', _, rfl⟩ := r2
 simp [Go.ChangeMaps.setBlock]
theorem at_len_ (hg : o.guard = none) (m : Operand) (hop : o.op = Op.call { callee := Callee.builtin Builtin.len, args := #[m], argTypes := #[74] })
  (hm : a.eval m = .map (some b)) (h : MapO w b f n) (hK : wpList Tryz.prog ops Q rest (a.put o.dst (.int .i64 (n : Int))) w) : wpList Tryz.prog ops Q (o :: rest) a w := by
 obtain ⟨D, N, hown, _, _, rfl, _⟩ := h
 exact wpList_len_own w hg m _ hop _ _ Tryz.underlying74 _ b N D hm hown hK
theorem at_range_ (hg : o.guard = none) (m : Operand) (hop : o.op = Op.range 74 m) (hm : a.eval m = .map (some b)) (h : MapO w b f n) (hr : w.heap.size = r)
  (hK : ∀ w' left cnt, RangeO w' b r f n left cnt → (∀ s : ByteArray, left (.string s.data.toList) = f s) → w.grownBy w' none → w'.heap.size = w.heap.size + 1 → wpList Tryz.prog ops Q rest (a.put o.dst (.pointer (some ⟨r, 0, none⟩))) w') :
  wpList Tryz.prog ops Q (o :: rest) a w := by
 subst hr
 obtain ⟨D, N, hown, hN, hD⟩ := h
 exact wpList_range_own w hg m _ hop _ _ law Tryz.underlying74 _ b N D hm hown (fun w' r1 r2 r3 => hK w' _ _ ⟨D, N, r1, hN, hD⟩ hD.2.2.1 r2 r3)
theorem at_next_ (hg : o.guard = none) (it : Operand) (hop : o.op = Op.next it false) (hit : a.eval it = .pointer (some ⟨r, 0, none⟩)) (h : RangeO w b r f n left cnt)
  (hDone : (∀ kl, left kl = false) → wpList Tryz.prog ops Q rest (a.put o.dst (.tuple #[.bool false])) w)
  (hMore : ∀ (s : ByteArray) (c : Value) (w' : World) (cnt' : Nat), s.size ≤ maxLen → left (.string s.data.toList) = true → f s = true → RangeO w' b r f n (fun z => left z && !z.sameKey (.string s.data.toList)) cnt' → cnt' < cnt →
   w.grownBy w' (some r) → w'.heap.size = w.heap.size → (Instr.entry (.pointer (some ⟨r, 0, none⟩))).run Tryz.prog w' = .ok (.tuple #[.string s, c]) w' → wpList Tryz.prog ops Q rest (a.put o.dst (.tuple #[.bool true, .string s, c])) w') :
  wpList Tryz.prog ops Q (o :: rest) a w := by
 obtain ⟨D, N, hrg, hN, hD⟩ := h
 refine wpList_next_ranges w hg it hop _ law _ Value.string (fun v : Value => v) (fun key kl hkey => by obtain ⟨s, rfl, _⟩ := key_inv hkey; exact ⟨s, rfl⟩) (fun v y hv => ⟨v, rfl⟩) b r N D left cnt hit hrg (fun _ hl => hDone hl) (fun x c kl y w' cnt' hkey hlk hv hat r1 r2 r3 r4 r5 => ?_)
 obtain ⟨s, e, rfl, hs⟩ := key_inv hkey
 injection e with e
 subst e
 refine hMore x c w' cnt' hs hlk ?_ ⟨D, N, r1, hN, hD⟩ r2 r3 r4 r5
 rw [← hD.2.2.1 x]
 exact has_true_of_atKey hat
theorem at_del_range (hg : o.guard = none) (m x : Operand) (hop : o.op = Op.call { callee := Callee.builtin Builtin.delete, args := #[m, x], argTypes := #[74, 9] })
  (hm : a.eval m = .map (some b)) (h : RangeO w b r f n left cnt) (s : ByteArray) (hx : a.eval x = .string s) (hs : s.size ≤ maxLen)
  (hK : ∀ w' n' cnt', RangeO w' b r (delF f s) n' (fun z => left z && !z.sameKey (.string s.data.toList)) cnt' → cnt' ≤ cnt → n' + (if f s then 1 else 0) = n → w.grownBy w' (some b) → w'.heap.size = w.heap.size → wpList Tryz.prog ops Q rest (a.put o.dst (.tuple #[])) w') :
  wpList Tryz.prog ops Q (o :: rest) a w := by
 obtain ⟨D, N, hrg, hN, hD⟩ := h
 refine wpList_delete_ranges w hg m x _ _ hop _ law Tryz.underlying74 _ b r N D left cnt hm hrg (.string s) (.string s.data.toList) hx (keyOf_string_mk Tryz.underlying9 hs) (fun w' cnt' r1 r2 r3 => ?_)
 obtain ⟨n', h1, h2⟩ := hD.del s
 refine hK w' n' cnt' ⟨_, N, r1, hN, h1⟩ r2 h2 r3.grown ?_
 obtain ⟨es, clock, es', clock', _, rfl⟩ := r3
 simp [Go.ChangeMaps.setBlock]
end
end MapK
end Go.Proofs.YtbbllkhmenpnlaaGreat

/-
  What is reached, of programs (made by tools/s13r.py).
-/
namespace Go.Proofs.YtbbllkhmenpnlaaGreat
open Go.RowKit
namespace GraphM
open RowK Mem
def names (fs : List FunctionT) : List ByteArray := fs.map (·.1)
theorem names_take (fs : List FunctionT) {k : Nat} (h : k < fs.length) : (fs.take (k + 1)).map (·.1) = (fs.take k).map (·.1) ++ [fs[k].1] := by rw [take_snoc h, List.map_append]; rfl
def calledP (rs : List RuleT) (f : ByteArray → Bool) (nm : ByteArray) (e : EdgeT) : Bool := !f (fromE rs e) && ((toE rs e).toList == nm.toList)
def calledF (rs : List RuleT) (f : ByteArray → Bool) (nm : ByteArray) : Bool := decide (0 < ((edgesA rs).filter (calledP rs f nm)).length)
theorem calledF_iff {rs : List RuleT} {f : ByteArray → Bool} {nm : ByteArray} : calledF rs f nm = true ↔ ∃ e ∈ edgesA rs, f (fromE rs e) = false ∧ toE rs e = nm := by
 unfold calledF
 rw [decide_eq_true_iff, List.length_pos_iff_exists_mem]
 constructor
 ·rintro ⟨e, he⟩
  obtain ⟨h1, h2⟩ := List.mem_filter.1 he
  unfold calledP at h2
  rw [Bool.and_eq_true, Bool.not_eq_true'] at h2
  exact ⟨e, h1, h2.1, (Lib.bytes_beq_iff _ _).1 h2.2⟩
 ·rintro ⟨e, h1, h2, h3⟩
  refine ⟨e, List.mem_filter.2 ⟨h1, ?_⟩⟩
  unfold calledP
  rw [Bool.and_eq_true, Bool.not_eq_true']
  exact ⟨h2, (Lib.bytes_beq_iff _ _).2 h3⟩
def arrows (rs : List RuleT) : Arrows := (edgesA rs).map fun e => (fromE rs e, toE rs e)
theorem mem_arrows {rs : List RuleT} {b c : ByteArray} : (b, c) ∈ arrows rs ↔ ∃ e ∈ edgesA rs, fromE rs e = b ∧ toE rs e = c := by
 unfold arrows
 rw [List.mem_map]
 constructor
 ·rintro ⟨e, h1, h2⟩; injection h2 with h2 h3; exact ⟨e, h1, h2, h3⟩
 ·rintro ⟨e, h1, h2, h3⟩; exact ⟨e, h1, by rw [h2, h3]⟩
theorem from_size {rs : List RuleT} {k i : Nat} {m : Nat} (hk : k < rs.length) (h : rs.length + szs szRuleU rs ≤ m) : (fromE rs ((k : Int), (i : Int))).size ≤ m := by
 rw [fromE_at hk]
 have h2 := szs_mem (sz := szRuleU) (List.getElem_mem hk)
 simp only [szRuleU] at h2
 omega
theorem find_mem {fs : List FunctionT} {nm : ByteArray} (h : (ProgI.findF fs nm).isSome = true) : nm ∈ names fs := by
 obtain ⟨f, hf⟩ := Option.isSome_iff_exists.1 h
 have h1 := List.mem_of_find?_eq_some hf
 have h2 := List.find?_some hf
 exact List.mem_map.2 ⟨f, h1, by simpa using h2⟩
theorem rest_calls {fs : List FunctionT} {l : Bool} {res : ArgT} : ∀ {cs : List CallT} {sc : List ByteArray}, ProgM.restV fs l res sc cs = true → ∀ c ∈ cs, (ProgI.findF fs c.2.1).isSome = true
 | [], _, _, c, hc => by cases hc
 | x :: cs, sc, h, c, hc => by
  simp only [ProgM.restV, Bool.and_eq_true] at h
  rcases List.mem_cons.1 hc with rfl | hc
  ·have h1 := h.1
   unfold ProgM.callV at h1
   rw [Bool.and_eq_true] at h1
   exact h1.1
  ·exact rest_calls h.2 c hc
theorem valid_ends {fs : List FunctionT} {rs : List RuleT} (h : ProgM.progV fs rs = true) : ∀ e ∈ edgesA rs, fromE rs e ∈ names fs ∧ toE rs e ∈ names fs := fun e he => by
 obtain ⟨k, i, hk, hi, rfl⟩ := edgesA_at he
 unfold ProgM.progV at h
 simp only [Bool.and_eq_true] at h
 have hr := List.all_eq_true.1 h.2.2.2 rs[k] (List.getElem_mem hk)
 unfold ProgM.ruleV at hr
 rw [Bool.and_eq_true] at hr
 rw [fromE_at hk, toE_at hk hi]
 refine ⟨find_mem hr.1, find_mem ?_⟩
 have h2 := hr.2
 unfold ProgM.ruleF at h2
 simp only [Bool.and_eq_true] at h2
 exact rest_calls h2.2.2.2.2 _ (List.getElem_mem hi)
theorem valid_nodup {fs : List FunctionT} {rs : List RuleT} (h : ProgM.progV fs rs = true) : (names fs).Nodup := by
 unfold ProgM.progV at h
 simp only [Bool.and_eq_true] at h
 exact (ProgM.dist_nodup _).1 h.2.1
theorem valid_len {fs : List FunctionT} {rs : List RuleT} (h : ProgM.progV fs rs = true) : fs.length ≤ 3 := by
 unfold ProgM.progV at h
 simp only [Bool.and_eq_true, decide_eq_true_eq] at h
 exact h.1.2.1
theorem names_size (fs : List FunctionT) : szs szStr (names fs) ≤ szs szFunctionU fs := by
 unfold names
 induction fs with
 | nil => exact Nat.le_refl _
 | cons f fs ih =>
  rw [List.map_cons, szs_cons, szs_cons]
  have : szStr f.1 ≤ szFunctionU f := by unfold szStr szFunctionU; omega
  omega
theorem szs_sub {α : Type} {sz : α → Nat} {xs ys : List α} (h : xs.Sublist ys) : szs sz xs ≤ szs sz ys := by
 induction h with
 | slnil => exact Nat.le_refl _
 | cons a _ ih => rw [szs_cons]; omega
 | cons_cons a _ ih => rw [szs_cons, szs_cons]; omega
theorem sub_small {fs : List FunctionT} {ss : List ByteArray} {m : Nat} (h : ss.Sublist (names fs)) (hl : fs.length + szs szFunctionU fs ≤ m) : ss.length + szs szStr ss ≤ m := by
 have h1 := h.length_le
 have h2 := szs_sub (sz := szStr) h
 have h3 := names_size fs
 unfold names at h1
 rw [List.length_map] at h1
 omega
theorem rch_out {ns : Nm} {G : Arrows} {a x : ByteArray} (hG : ∀ b c, (b, c) ∈ G → b ∈ ns) (ha : a ∉ ns) (h : Rch G a x) : x = a :=
 h.closed (P := fun y => y = a) rfl (fun b c hbc hb => absurd (hb ▸ hG b c hbc) ha)
def Closing (rs : List RuleT) (f : ByteArray → Bool) (n : Nat) (f' : ByteArray → Bool) (n' : Nat) : Prop :=
 n' ≤ n ∧ (∀ x, f' x = true → f x = true) ∧
 (∀ P : ByteArray → Prop, (∀ e ∈ edgesA rs, P (fromE rs e) → P (toE rs e)) → (∀ e ∈ edgesA rs, f (fromE rs e) = false → P (fromE rs e)) → ∀ x, f x = true → f' x = false → P x) ∧
 (n' = n → f' = f ∧ ∀ e ∈ edgesA rs, f (fromE rs e) = false → f (toE rs e) = false)
def Going (rs : List RuleT) (f : ByteArray → Bool) (n : Nat) (f' : ByteArray → Bool) (n' : Nat) (left : Lit → Bool) : Prop :=
 n' ≤ n ∧ (∀ x, f' x = true → f x = true) ∧
 (∀ P : ByteArray → Prop, (∀ e ∈ edgesA rs, P (fromE rs e) → P (toE rs e)) → (∀ e ∈ edgesA rs, f (fromE rs e) = false → P (fromE rs e)) → ∀ x, f x = true → f' x = false → P x) ∧
 (n' = n → f' = f ∧ ∀ s : ByteArray, f s = true → left (.string s.data.toList) = false → calledF rs f s = false)
theorem Going.start {rs : List RuleT} {f : ByteArray → Bool} {n : Nat} {left : Lit → Bool} (h : ∀ s : ByteArray, left (.string s.data.toList) = f s) : Going rs f n f n left :=
 ⟨Nat.le_refl _, fun _ h => h, (fun _ _ _ x h1 h2 => by rw [h1] at h2; cases h2), fun _ => ⟨rfl, (fun s h1 h2 => by rw [h s, h1] at h2; cases h2)⟩⟩
theorem Going.done {rs : List RuleT} {f f' : ByteArray → Bool} {n n' : Nat} {left : Lit → Bool} (h : Going rs f n f' n' left) (hl : ∀ kl, left kl = false) : Closing rs f n f' n' := by
 obtain ⟨h1, h2, h3, h4⟩ := h
 refine ⟨h1, h2, h3, fun e => ⟨(h4 e).1, fun g hg hf => ?_⟩⟩
 cases hq : f (toE rs g) with
 | false => rfl
 | true =>
  have h5 := (h4 e).2 (toE rs g) hq (hl _)
  rw [calledF_iff.2 ⟨g, hg, hf, rfl⟩] at h5
  cases h5
theorem Going.stays {rs : List RuleT} {f f' : ByteArray → Bool} {n n' : Nat} {left : Lit → Bool} {s : ByteArray} (h : Going rs f n f' n' left) (hc : calledF rs f' s = false) : Going rs f n f' n' (fun z => left z && !z.sameKey (.string s.data.toList)) := by
 obtain ⟨h1, h2, h3, h4⟩ := h
 refine ⟨h1, h2, h3, fun e => ⟨(h4 e).1, fun x hx hl => ?_⟩⟩
 by_cases hs : x.data.toList = s.data.toList
 ·rw [NameM.toList_inj hs, ← (h4 e).1]; exact hc
 ·refine (h4 e).2 x hx ?_
  simpa [Maps.sameKey_ne (MapK.lit_ne hs)] using hl
theorem Going.goes {rs : List RuleT} {f f' : ByteArray → Bool} {n n' m : Nat} {left left' : Lit → Bool} {s : ByteArray} (h : Going rs f n f' n' left) (hc : calledF rs f' s = true) (hm : m < n') : Going rs f n (MapK.delF f' s) m left' := by
 obtain ⟨h1, h2, h3, h4⟩ := h
 refine ⟨by omega, fun x hx => h2 x (MapK.delF_iff.1 hx).2, fun P hP hQ x hx hd => ?_, fun e => by omega⟩
 by_cases hs : x = s
 ·subst hs
  obtain ⟨e, he, hf, rfl⟩ := calledF_iff.1 hc
  refine hP e he ?_
  cases hq : f (fromE rs e) with
  | false => exact hQ e he hq
  | true => exact h3 P hP hQ _ hq hf
 ·refine h3 P hP hQ x hx ?_
  cases hq : f' x with
  | false => rfl
  | true => rw [MapK.delF_iff.2 ⟨hs, hq⟩] at hd; cases hd
def Opened (fs : List FunctionT) (rs : List RuleT) (a : ByteArray) (f : ByteArray → Bool) (t : Bool) : Prop :=
 (∀ x ∈ names fs, f x = false → Rch (arrows rs) a x) ∧ f a = false ∧ (t = false → ∀ e ∈ edgesA rs, f (fromE rs e) = false → f (toE rs e) = false)
theorem Opened.start {fs : List FunctionT} {rs : List RuleT} {a : ByteArray} {f : ByteArray → Bool} (h : ∀ x, f x = true ↔ x ∈ names fs) : Opened fs rs a (MapK.delF f a) true := by
 refine ⟨fun x hx hf => ?_, ?_, fun h => by cases h⟩
 ·by_cases e : x = a
  ·subst e; exact .refl
  ·rw [MapK.delF_iff.2 ⟨e, (h x).2 hx⟩] at hf; cases hf
 ·cases hq : MapK.delF f a a with
  | false => rfl
  | true => exact absurd rfl (MapK.delF_iff.1 hq).1
theorem Opened.next {fs : List FunctionT} {rs : List RuleT} {a : ByteArray} {f f' : ByteArray → Bool} {n n' : Nat} {t : Bool} (hv : ProgM.progV fs rs = true) (h : Opened fs rs a f t) (k : Closing rs f n f' n') : Opened fs rs a f' (decide (n' < n)) := by
 obtain ⟨h1, h2, h3⟩ := h
 obtain ⟨k1, k2, k3, k4⟩ := k
 refine ⟨fun x hx hf => ?_, ?_, fun ht => ?_⟩
 ·cases hq : f x with
  | false => exact h1 x hx hq
  | true => exact k3 (fun y => Rch (arrows rs) a y) (fun e he hr => hr.step (mem_arrows.2 ⟨e, he, rfl, rfl⟩)) (fun e he hf => h1 _ (valid_ends hv e he).1 hf) x hq hf
 ·cases hq : f' a with
  | false => rfl
  | true => rw [k2 a hq] at h2; cases h2
 ·have e : n' = n := by
   have := of_decide_eq_false ht
   omega
  rw [(k4 e).1]
  exact (k4 e).2
theorem Opened.fin {fs : List FunctionT} {rs : List RuleT} {a : ByteArray} {f : ByteArray → Bool} (hv : ProgM.progV fs rs = true) (h : Opened fs rs a f false) : (names fs).filter (fun x => !f x) = rchL (names fs) (arrows rs) a := by
 obtain ⟨h1, h2, h3⟩ := h
 by_cases ha : a ∈ names fs
 ·refine rchL_open ha h2 h1 (fun b c hbc hb => ?_)
  obtain ⟨e, he, rfl, rfl⟩ := mem_arrows.1 hbc
  exact h3 rfl e he hb
 ·rw [rchL_none ha, List.filter_eq_nil_iff]
  intro x hx hf
  rw [Bool.not_eq_true'] at hf
  refine ha ?_
  rw [← rch_out (fun b c hbc => ?_) ha (h1 x hx hf)]
  ·exact hx
  ·obtain ⟨e, he, rfl, _⟩ := mem_arrows.1 hbc
   exact (valid_ends hv e he).1
end GraphM
end Go.Proofs.YtbbllkhmenpnlaaGreat
