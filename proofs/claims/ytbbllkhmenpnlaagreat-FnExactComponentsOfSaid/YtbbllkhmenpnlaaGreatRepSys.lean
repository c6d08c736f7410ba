import Derived.Test.YtbbllkhmenpnlaaGreatRepGen
import Derived.Deep.RegionLaw
/-
  Slices of linear expressions: size, comparison, marks.
-/
namespace Go.Proofs.YtbbllkhmenpnlaaGreat
open Go.RowKit
namespace Mem
open RowK

theorem take_succ {α : Type} {xs : List α} {k : Nat} (h : k < xs.length) : xs.take (k + 1) = xs.take k ++ [xs[k]] := by rw [List.take_add_one, List.getElem?_eq_getElem h]; rfl
def lenSum (xs : List (Int × List Int)) : Nat := (xs.map fun x => x.2.length).sum
theorem lenSum_snoc (xs : List (Int × List Int)) (x : Int × List Int) : lenSum (xs ++ [x]) = lenSum xs + x.2.length := by simp [lenSum]
theorem lenSum_take (xs : List (Int × List Int)) (k : Nat) : lenSum (xs.take k) ≤ lenSum xs := by
 have h : lenSum xs = lenSum (xs.take k) + lenSum (xs.drop k) := by
  unfold lenSum
  rw [← List.sum_append, ← List.map_append, List.take_append_drop]
 omega

def SzRel (w : World) (xs : List (Int × List Int)) (m : Nat) (x i : Value) (wr : World) : Prop :=
 ∃ k l : Nat, k ≤ xs.length ∧ i = .int .i64 k ∧ x = .int .i64 l ∧ l + lenSum (xs.take k) + xs.length = m ∧ Below w.heap.size w wr
set_option maxHeartbeats 1000000 in
set_option maxRecDepth 100000 in
theorem sizeS (q : Bool) (fp : List Nat) (A : Option Addr) (c L : Nat) (xs : List (Int × List Int)) (w : World) (hA : lins.rep q w fp [.slice A xs.length c] xs) (hL : L ≤ 1000000000) (hl : xs.length ≤ 9223372036854775807) (hs : ∀ x ∈ xs, x.2.length ≤ 9223372036854775807) :
  Calls Tryz.prog 143 #[.slice A xs.length c, .int .i64 L] w fun e w' => e = .returned (.int .i64 (IntK.leftOf L (linsSize xs))) ∧ Below w.heap.size w w' := by
 have HS := Lib.hid hs
 by_cases h0 : xs.length ≤ L
 ·have hlt0 : decide ((L : Int) - (xs.length : Int) < 0) = false := decide_eq_false (by omega)
  have hx9 : xs.length ≤ 1000000000 := by omega
  clear hs
  go_enter Tryz.func143, Tryz.ntmps143
  go_wp2
  go_loopw [1, 5] (fun x i wr => SzRel w xs L x i wr) (fun _ i _ => xs.length - (intOf i).toNat)
  case atStart => exact ⟨0, L - xs.length, Nat.zero_le _, rfl, congrArg (Value.int .i64) (by omega), by simp [lenSum]; omega, Below.refl _ _⟩
  case round =>
   obtain ⟨k, l, hk, rfl, rfl, hsum, hb⟩ := hrel
   by_cases hlt : k < xs.length
   ·obtain ⟨b, o, B, d, lo, hi, rfl, hbb, c0, c1, hd, hrow⟩ := lins_at (Rep.below hA hb) hlt
    have hxs := HS.out _ (List.getElem_mem hlt)
    have hts := lenSum_snoc (xs.take k) xs[k]
    rw [← take_succ hlt] at hts
    have hle := lenSum_take xs (k + 1)
    generalize xs[k] = x at *
    obtain ⟨z, zs⟩ := x
    simp only at c0 c1 hxs hts
    have SZ := Lib.hid (LinK.size z B d l zs.length wr (by omega) hxs)
    have HT := Lib.hid hts
    have HE := Lib.hid hle
    have HM := Lib.hid hsum
    unfold IntK.leftOf at SZ
    clear hrow hts hle hsum
    by_cases hc : zs.length ≤ l
    ·rw [if_pos hc] at SZ
     obtain ⟨l', rfl⟩ : ∃ l', l = zs.length + l' := ⟨l - zs.length, by omega⟩
     rw [show ((zs.length + l' : Nat) : Int) - (zs.length : Int) = (l' : Int) by omega] at SZ
     have hl0 : decide ((l' : Int) < 0) = false := decide_eq_false (by omega)
     clear hc
     go_wp2_with fail
     refine (Calls.mono SZ.out) ?_
     rintro e w1 ⟨rfl, b1⟩
     have B1 := Lib.hid (hb.trans (b1.mono hb.size))
     clear b1
     go_wp2
     go_roundw
     case rel => exact ⟨k + 1, l', by omega, by go_num, rfl, by have := HM.out; have := HT.out; omega, B1.out⟩
     case measure => simp [intOf]; omega
    ·rw [if_neg hc] at SZ
     have HR := Lib.hid (show IntK.leftOf L (linsSize xs) = -1 from if_neg (by unfold linsSize; have := HM.out; have := HT.out; have := HE.out; unfold lenSum at *; omega))
     clear hc
     go_wp2_with fail
     refine (Calls.mono SZ.out) ?_
     rintro e w1 ⟨rfl, b1⟩
     have B1 := Lib.hid (hb.trans (b1.mono hb.size))
     clear b1
     go_wp2
     go_ret
     exact ⟨by rw [HR.out]; rfl, B1.out⟩
   ·obtain rfl : k = xs.length := by omega
    rw [List.take_length] at hsum
    have HR := Lib.hid (show IntK.leftOf L (linsSize xs) = (l : Int) by
     unfold IntK.leftOf linsSize
     unfold lenSum at hsum
     rw [if_pos (by omega)]
     omega)
    clear hsum
    go_wp2
    go_ret
    exact ⟨by rw [HR.out]; rfl, hb⟩
 ·have HR := Lib.hid (show IntK.leftOf L (linsSize xs) = -1 from if_neg (by unfold linsSize; omega))
  have hlt0 : decide ((L : Int) - (xs.length : Int) < 0) = true := decide_eq_true (by omega)
  clear hs
  go_enter Tryz.func143, Tryz.ntmps143
  go_wp2
  go_ret
  exact ⟨by rw [HR.out]; rfl, Below.refl _ _⟩

set_option maxHeartbeats 1000000 in
set_option maxRecDepth 100000 in
theorem eqS (q q2 : Bool) (fp gp : List Nat) (A B : Option Addr) (c d : Nat) (xs : List (Int × List Int)) (w : World) (hA : lins.rep q w fp [.slice A xs.length c] xs) (hB : lins.rep q2 w gp [.slice B xs.length d] xs) (hl : linsSize xs ≤ 1000000000) :
  Calls Tryz.prog 153 #[.slice A xs.length c, .slice B xs.length d] w fun e w' => e = .returned (.bool true) ∧ Below w.heap.size w w' := by
 have hxl : xs.length ≤ 1000000000 := by unfold linsSize at hl; omega
 have HSZ := Lib.hid (fun x (h : x ∈ xs) => linsSize_mem h)
 have HL := Lib.hid hl
 clear hl
 go_enter Tryz.func153, Tryz.ntmps153
 go_wp2
 go_loopw [5] (fun i wr => ∃ k : Nat, k ≤ xs.length ∧ i = .int .i64 k ∧ Below w.heap.size w wr) (fun i _ => xs.length - (intOf i).toNat)
 case atStart => exact ⟨0, Nat.zero_le _, rfl, Below.refl _ _⟩
 case round =>
  obtain ⟨k, hk, rfl, hb⟩ := hrel
  by_cases hlt : k < xs.length
  ·obtain ⟨b1, o1, B1, d1, lo1, hi1, rfl, hbb1, c0, c1, _, r1⟩ := lins_at (Rep.below hA hb) hlt
   obtain ⟨b2, o2, B2, d2, lo2, hi2, rfl, hbb2, e0, e1, _, r2⟩ := lins_at (Rep.below hB hb) hlt
   have hx := HSZ.out _ (List.getElem_mem hlt)
   have hs9 : xs[k].2.length ≤ 1000000000 := by have := HL.out; omega
   clear hx
   generalize xs[k] = x at *
   obtain ⟨z, zs⟩ := x
   simp only at c0 c1 e0 e1 r1 r2 hs9
   have hd : Below wr.heap.size wr wr.drew := (Below.refl _ _).drew
   have EQ := Lib.hid (LinK.eq_same lo1 hi1 lo2 hi2 z B1 B2 d1 d2 zs wr.drew (r1.below hd) (r2.below hd) (by omega))
   have hi0 : (0 : Int) ≤ (k : Int) := by omega
   have hi1 : (k : Int) < (xs.length : Int) := by omega
   clear r1 r2 hd
   go_wp2_with fail
   go_region_law (first
    | (go_simp; go_at_call 194; refine (Calls.mono EQ.out) ?_; rintro e w1 ⟨rfl, b1⟩))
   all_goals
    have B1' := Lib.hid (hb.trans (((Below.refl wr.heap.size wr).drew.trans b1).mono hb.size))
    clear b1
    go_wp2
    go_roundw
    case rel => exact ⟨k + 1, by omega, by go_num, B1'.out⟩
    case measure => simp [intOf]; omega
  ·go_wp2
   go_ret
   exact ⟨rfl, hb⟩
end Mem
end Go.Proofs.YtbbllkhmenpnlaaGreat

/-
  Slices of linear expressions: marks.
-/
namespace Go.Proofs.YtbbllkhmenpnlaaGreat
open Go.RowKit
namespace Mem
open RowK

def marksL (k : Nat) : List (Int × List Int) → List (Int × List Int)
 | [] => []
 | x :: xs => ((k : Int), IntK.marks (k + 1) x.2.length) :: marksL (k + 1 + x.2.length) xs
theorem linsSize_append (a b : List (Int × List Int)) : linsSize (a ++ b) = linsSize a + linsSize b := by simp [linsSize]; omega
theorem marksL_append : ∀ (a b : List (Int × List Int)) (k : Nat), marksL k (a ++ b) = marksL k a ++ marksL (k + linsSize a) b
 | [], b, k => by simp [marksL, linsSize]
 | x :: a, b, k => by
  rw [List.cons_append, marksL, marksL, marksL_append a b, linsSize_cons, show k + 1 + x.2.length + linsSize a = k + (linsSize a + 1 + x.2.length) by omega]
  rfl
theorem marksL_snoc (a : List (Int × List Int)) (x : Int × List Int) (k : Nat) : marksL k (a ++ [x]) = marksL k a ++ [(((k + linsSize a : Nat) : Int), IntK.marks (k + linsSize a + 1) x.2.length)] := by
 rw [marksL_append]; rfl
theorem marksL_len (k : Nat) : ∀ xs : List (Int × List Int), (marksL k xs).length = xs.length := by
 intro xs
 induction xs generalizing k with
 | nil => rfl
 | cons x xs ih => rw [marksL, List.length_cons, ih, List.length_cons]
theorem linsSize_take (xs : List (Int × List Int)) (k : Nat) : linsSize (xs.take k) ≤ linsSize xs := by
 have h : linsSize xs = linsSize (xs.take k) + linsSize (xs.drop k) := by rw [← linsSize_append, List.take_append_drop]
 omega

def MarkRel (fp : List Nat) (w : World) (xs : List (Int × List Int)) (A : Option Addr) (k0 : Nat) (x i : Value) (wr : World) : Prop :=
 ∃ (k l b o : Nat) (done rest : List (El (Int × List Int))), k ≤ xs.length ∧ i = .int .i64 k ∧ x = .int .i64 l ∧ l = k0 + linsSize (xs.take k) ∧ A = some ⟨b, o, none⟩ ∧ b < wr.heap.size ∧ done.length = k ∧
  Row b (b + 1) wr A (cells (done ++ rest)) ∧ Free wr A (xs.length * 2) ∧ (∀ e ∈ done ++ rest, lin.rep true wr e.1 e.2.1 e.2.2) ∧ fp = b :: fps (done ++ rest) ∧ fp.Nodup ∧ vals done = marksL k0 (xs.take k) ∧ vals rest = xs.drop k ∧ ModF fp w wr
theorem fps_mid {a b : List (El (Int × List Int))} {e : El (Int × List Int)} {B : Nat} (h : (B :: fps (a ++ e :: b)).Nodup) : (∀ x ∈ a ++ b, ∀ i ∈ x.1, i ∉ e.1 ∧ i ≠ B) ∧ (∀ i ∈ e.1, i ≠ B) := by
 obtain ⟨h1, h2⟩ := List.nodup_cons.1 h
 have hf : fps (a ++ e :: b) = fps a ++ (e.1 ++ fps b) := by simp [fps]
 rw [hf] at h1 h2
 obtain ⟨h3, h4, h5⟩ := List.nodup_append.1 h2
 obtain ⟨h6, h7, h8⟩ := List.nodup_append.1 h4
 refine ⟨fun x hx i hi => ?_, fun i hi e => h1 (e ▸ List.mem_append_right _ (List.mem_append_left _ hi))⟩
 rcases List.mem_append.1 hx with hx | hx
 ·have := mem_fps hx hi
  exact ⟨fun h => h5 i this i (List.mem_append_left _ h) rfl, fun e => h1 (e ▸ List.mem_append_left _ this)⟩
 ·have := mem_fps hx hi
  exact ⟨fun h => h8 i h i this rfl, fun e => h1 (e ▸ List.mem_append_right _ (List.mem_append_right _ this))⟩

def MarkAt (fp : List Nat) (w : World) (xs : List (Int × List Int)) (A : Option Addr) (k0 k l : Nat) (zs : List Int) (wr : World) : Prop :=
 ∃ b o B c lo hi z, A = some ⟨b, o, none⟩ ∧ wr.cell? ⟨b, o + k * 2, none⟩ = some (.int .i64 z) ∧ wr.cell? ⟨b, o + k * 2 + 1, none⟩ = some (.slice B zs.length c) ∧ wr.frozen? ⟨b, o + k * 2, none⟩ = false ∧
  (b < lo ∨ hi ≤ b) ∧ Row lo hi wr B (IntK.iv zs) ∧ Free wr B zs.length ∧
  ∀ w2, Row lo hi w2 B (IntK.iv (IntK.marks (l + 1) zs.length)) → Mod lo hi (wr.setCell ⟨b, o + k * 2, none⟩ (.int .i64 l)) w2 → Free w2 B zs.length → MarkRel fp w xs A k0 (.int .i64 ((l + 1 + zs.length : Nat) : Int)) (.int .i64 ((k + 1 : Nat) : Int)) w2
theorem row_setAt {lo hi : Nat} {w : World} {A : Option Addr} {vs : List Value} {b o : Nat} (h : Row lo hi w A vs) (e : A = some ⟨b, o, none⟩) {k : Nat} (hk : k < vs.length) (v : Value) : Row lo hi (w.setCell ⟨b, o + k, none⟩ v) A (vs.set k v) := by
 subst e
 exact h.store hk v
theorem mark_at {fp : List Nat} {w wr : World} {xs : List (Int × List Int)} {A : Option Addr} {k0 k l : Nat} (h : MarkRel fp w xs A k0 (.int .i64 l) (.int .i64 k) wr) (hk : k < xs.length) : MarkAt fp w xs A k0 k l xs[k].2 wr := by
 obtain ⟨k', l', b, o, done, rest, hkl, e1, e2, hsum, rfl, hb, hdl, hr, hf, he, rfl, hn, hv1, hv2, hm⟩ := h
 injection e1 with _ e1
 injection e2 with _ e2
 obtain rfl : k = k' := by omega
 obtain rfl : l = l' := by omega
 clear e1 e2
 obtain ⟨e, rest, rfl⟩ : ∃ e r, rest = e :: r := by
  cases rest with
  | nil => rw [List.drop_eq_getElem_cons hk] at hv2; cases hv2
  | cons e r => exact ⟨e, r, rfl⟩
 rw [List.drop_eq_getElem_cons hk] at hv2
 have hv2' : e.2.2 = xs[k] ∧ vals rest = xs.drop (k + 1) := by
  unfold vals at hv2 ⊢
  rw [List.map_cons] at hv2
  injection hv2 with a b
  exact ⟨a, b⟩
 obtain ⟨hx, hv3⟩ := hv2'
 have hem : e ∈ done ++ e :: rest := List.mem_append_right _ List.mem_cons_self
 have hre := he e hem
 obtain ⟨B, c, lo, hi, hcs, hc, hrow, hfree, hint⟩ := lin_open hre
 obtain ⟨hd1, hd2⟩ := fps_mid hn
 have hlen := fun e h => lin.len (he e h)
 have hlenS := lin_len he
 have hxl : (done ++ e :: rest).length = xs.length := by
  have h1 := congrArg List.length hv1
  have h2 := congrArg List.length hv3
  rw [vals_len, marksL_len, List.length_take] at h1
  rw [vals_len, List.length_drop] at h2
  simp
  omega
 have hat : (done ++ e :: rest)[k]'(by omega) = e := by
  rw [List.getElem_append_right (by omega)]
  simp [hdl]
 have c0 := cells_at (n := 2) hlen (k := k) (by omega) (i := 0) (by omega)
 have c1 := cells_at (n := 2) hlen (k := k) (by omega) (i := 1) (by omega)
 rw [hat, hcs] at c0 c1
 obtain ⟨b', o', e', h1, h2⟩ := hr (fun e => by rw [e] at c0; simp at c0)
 injection e' with e'; injection e' with e1 e2; subst e1; subst e2
 have g0 := h2 (k * 2 + 0) _ c0
 have g1 := h2 (k * 2 + 1) _ c1
 have f0 := hf (by omega) b o rfl (k * 2) (by omega)
 rw [← hx]
 have hbn : b < lo ∨ hi ≤ b := by
  rcases Nat.lt_or_ge b lo with h | h
  ·exact Or.inl h
  ·rcases Nat.lt_or_ge b hi with h' | h'
   ·exact absurd rfl (hd2 b ((hint b).1 ⟨h, h'⟩))
   ·exact Or.inr h'
 refine ⟨b, o, B, c, lo, hi, e.2.2.1, rfl, by simpa using g0, by simpa [Nat.add_assoc] using g1, f0, hbn, hrow, hfree rfl, fun w2 r2 m2 f2 => ?_⟩
 have ms : ModF [b] wr (wr.setCell ⟨b, o + k * 2, none⟩ (.int .i64 l)) := ModF.set _ (p := ⟨b, o + k * 2, none⟩) (by simp) _
 have m2F : ModF e.1 (wr.setCell ⟨b, o + k * 2, none⟩ (.int .i64 l)) w2 := ⟨m2.os, m2.tape, m2.output, m2.size, fun i hii hn => m2.block i hii (by
  rcases Nat.lt_or_ge i lo with h | h
  ·exact Or.inl h
  ·rcases Nat.lt_or_ge i hi with h' | h'
   ·exact absurd ((hint i).1 ⟨h, h'⟩) hn
   ·exact Or.inr h')⟩
 have hfps : fps ((done ++ [(e.1, [.int .i64 l, .slice B e.2.2.2.length c], ((l : Int), IntK.marks (l + 1) e.2.2.2.length))]) ++ rest) = fps (done ++ e :: rest) := by simp [fps]
 have hcells : cells ((done ++ [(e.1, [.int .i64 l, .slice B e.2.2.2.length c], ((l : Int), IntK.marks (l + 1) e.2.2.2.length))]) ++ rest) = (cells (done ++ e :: rest)).set (k * 2) (.int .i64 l) := by
  have hld : (cells done).length = k * 2 := by rw [cells_len (n := 2) fun e he => hlen e (List.mem_append_left _ he), hdl]
  rw [cells_append done (e :: rest), List.set_append_right _ _ (by omega), hld, Nat.sub_self]
  simp only [cells, List.flatMap_append, List.flatMap_cons, hcs, List.append_assoc, List.cons_append, List.nil_append, List.set_cons_zero]
 have hsz : b < w2.heap.size := Nat.lt_of_lt_of_le (by simpa using hb) m2.size
 refine ⟨k + 1, l + 1 + e.2.2.2.length, b, o, done ++ [(e.1, [.int .i64 l, .slice B e.2.2.2.length c], ((l : Int), IntK.marks (l + 1) e.2.2.2.length))], rest, hk, rfl, rfl, ?_, rfl, hsz, by simp [hdl], ?_, ?_, ?_, by rw [hfps], hn, ?_, hv3, ?_⟩
 ·have h3 : linsSize (xs.take (k + 1)) = linsSize (xs.take k) + 1 + xs[k].2.length := by
   rw [take_succ hk, linsSize_append]
   simp [linsSize]
   omega
  rw [← hx] at h3
  omega
 ·rw [hcells]
  have := (row_setAt hr rfl (k := k * 2) (by rw [hlenS]; omega) (.int .i64 l))
  exact this.keep m2 (by omega)
 ·have := hf.set ⟨b, o + k * 2, none⟩ (.int .i64 l)
  rw [← hxl, ← hlenS] at this ⊢
  have hr' := row_setAt hr rfl (k := k * 2) (by rw [hlenS]; omega) (.int .i64 l)
  exact this.keep hr' (by rw [List.length_set]; exact Nat.le_refl _) m2 (by omega)
 ·intro x hx'
  rcases List.mem_append.1 hx' with hx' | hx'
  ·rcases List.mem_append.1 hx' with hx' | hx'
   ·have hd := hd1 x (List.mem_append_left _ hx')
    exact Rep.keepF (Rep.keepF (he x (List.mem_append_left _ hx')) ms (fun i hi => by have := (hd i hi).2; simpa using this)) m2F (fun i hi => (hd i hi).1)
   ·rw [List.mem_singleton.1 hx']
    refine ⟨[], e.1, _, _, rfl, rfl, ⟨rfl, rfl⟩, ?_⟩
    obtain ⟨fp2, q1, q2, q3⟩ := ints_close (q := true) (c := c) r2 (fun _ => by rw [IntK.marks_length]; exact f2) (by rw [IntK.marks_length]; exact hc)
    obtain ⟨A', c', e5, hc5, h5⟩ := q1
    rw [IntK.marks_length] at e5
    refine ⟨B, c, by rw [IntK.marks_length], by rw [IntK.marks_length]; exact hc, ?_⟩
    obtain ⟨_, f2', _, c2', e6, e7, ⟨e8, _⟩, h6⟩ := hre
    rw [e8, List.nil_append] at e6
    subst e6
    obtain ⟨A6, c6, e9, _, h7⟩ := h6
    rcases h7 with ⟨h8, h9⟩ | ⟨b7, o7, es7, h8, h9, h10, h11, h12, h13, h14, h15⟩
    ·refine Or.inl ⟨?_, h9⟩
     rw [h8]
     rfl
    ·have hne : e.2.2.2 ≠ [] := fun e => h10 (by rw [h9] at e; simpa [vals] using e)
     have hlt : 0 < e.2.2.2.length := List.length_pos_iff.2 hne
     rcases h5 with ⟨h16, _⟩ | ⟨b8, o8, es8, h16, h17, h18, h19, h20, h21, h22, h23⟩
     ·exact absurd (List.eq_nil_of_length_eq_zero (by simpa [IntK.marks_length] using congrArg List.length h16)) hne
     ·injection e5 with e5 _
      injection e5 with e5a e5b e5c
      have hB8 : B = some ⟨b8, o8, none⟩ := e5a.trans h16
      have hi13 := (int_cells h13).2
      rw [hi13] at h11
      have hi21 := (int_cells h21).2
      refine Or.inr ⟨b8, o8, es8, hB8, h17, h18, ?_, h20, h21, ?_, ?_⟩
      ·rw [hi21]
       have hb8 : b8 ∈ e.1 := by
        refine (hint b8).1 ?_
        have := q3 b8 (by rw [h19]; exact List.mem_cons_self)
        exact this
       rw [h11] at hb8 ⊢
       simp at hb8
       rw [hb8]
      ·rw [e5a]; exact h22
      ·rw [e5a]; exact h23
  ·have hd := hd1 x (List.mem_append_right _ hx')
   exact Rep.keepF (Rep.keepF (he x (List.mem_append_right _ (List.mem_cons_of_mem _ hx'))) ms (fun i hi => by have := (hd i hi).2; simpa using this)) m2F (fun i hi => (hd i hi).1)
 ·rw [take_succ hk, marksL_snoc, vals_append, hv1, ← hsum, ← hx]
  rfl
 ·refine hm.trans ((ms.wider (by simp)).trans (m2F.wider (fun i hi => List.mem_cons_of_mem _ (mem_fps hem hi))))
theorem mark_start {w : World} {fp : List Nat} {A : Option Addr} {c : Nat} {xs : List (Int × List Int)} (k0 : Nat) (h : lins.rep true w fp [.slice A xs.length c] xs) (hn : fp.Nodup) (hne : xs ≠ []) : MarkRel fp w xs A k0 (.int .i64 k0) (.int .i64 0) w := by
 obtain ⟨A', c', e, hc, ⟨rfl, rfl⟩ | ⟨b, o, es, rfl, rfl, hne, rfl, hl, he, hr, hf⟩⟩ := h
 ·exact absurd rfl hne
 ·injection e with e _
  injection e with e1 e2 e3
  subst e1
  refine ⟨0, k0, b, o, [], es, Nat.zero_le _, rfl, rfl, by simp [linsSize], rfl, hl, rfl, hr, ?_, he, rfl, hn, rfl, rfl, ModF.refl _ _⟩
  rw [vals_len, ← lin_len he]
  exact hf rfl
theorem mark_end {fp : List Nat} {w wr : World} {xs : List (Int × List Int)} {A : Option Addr} {k0 c : Nat} {x : Value} (hc : xs.length ≤ c) (hne : xs ≠ []) (h : MarkRel fp w xs A k0 x (.int .i64 (xs.length : Int)) wr) : lins.rep true wr fp [.slice A xs.length c] (marksL k0 xs) ∧ ModF fp w wr ∧ x = .int .i64 ((k0 : Int) + linsSize xs) := by
 obtain ⟨k', l', b, o, done, rest, hkl, e1, rfl, hsum, rfl, hb, hdl, hr, hf, he, rfl, hn, hv1, hv2, hm⟩ := h
 injection e1 with _ e1
 obtain rfl : xs.length = k' := by omega
 rw [List.take_length] at hsum hv1
 rw [List.drop_length] at hv2
 obtain rfl : rest = [] := by simpa [vals] using hv2
 rw [List.append_nil] at *
 have hd : done ≠ [] := fun e => hne (List.eq_nil_of_length_eq_zero (by rw [← hdl, e]; rfl))
 refine ⟨⟨_, c, by rw [marksL_len], by rw [marksL_len]; exact hc, Or.inr ⟨b, o, done, rfl, hv1.symm, hd, rfl, hb, he, hr, fun _ => ?_⟩⟩, hm, congrArg (Value.int .i64) (by omega)⟩
 rw [lin_len he, hdl]
 exact hf

def MarkedS (fp : List Nat) (w : World) (A : Option Addr) (c k0 : Nat) (xs : List (Int × List Int)) (e : Ending) (w' : World) : Prop :=
 e = .returned (.int .i64 ((k0 : Int) + linsSize xs)) ∧ lins.rep true w' fp [.slice A xs.length c] (marksL k0 xs) ∧ ModF fp w w'
set_option maxHeartbeats 1000000 in
set_option maxRecDepth 100000 in
theorem markS (fp : List Nat) (A : Option Addr) (c k0 : Nat) (xs : List (Int × List Int)) (w : World) (hA : lins.rep true w fp [.slice A xs.length c] xs) (hn : fp.Nodup) (hl : linsSize xs ≤ 1000000000) (hk0 : k0 ≤ 1000000000) :
  Calls Tryz.prog 111 #[.slice A xs.length c, .int .i64 k0] w (MarkedS fp w A c k0 xs) := by
 by_cases h0 : xs = []
 ·subst h0
  have F := Lib.hid (show MarkedS fp w A c k0 [] (.returned (.int .i64 k0)) w from ⟨by simp [linsSize], hA, ModF.refl _ _⟩)
  clear hA
  go_enter Tryz.func111, Tryz.ntmps111
  go_wp2
  refine wp_loop_rounds 1 ?_
  rw [rounds_succ]
  go_wp2
  go_ret
  exact F.out
 ·have hxl : xs.length ≤ 1000000000 := by unfold linsSize at hl; omega
  have HL := Lib.hid hl
  have HK := Lib.hid hk0
  have HNE := Lib.hid h0
  have HC := Lib.hid (show xs.length ≤ c by
   obtain ⟨_, _, e, h, _⟩ := hA
   injection e with e _
   injection e with _ _ e
   omega)
  have M0 := Lib.hid (mark_start k0 hA hn h0)
  clear hl hA hk0 h0 hn
  go_enter Tryz.func111, Tryz.ntmps111
  go_wp2
  go_loopw [1, 5] (fun x i wr => MarkRel fp w xs A k0 x i wr) (fun _ i _ => xs.length - (intOf i).toNat)
  case atStart => exact M0.out
  case round =>
   obtain ⟨k, l, rfl, rfl, hk, hl9⟩ : ∃ k l : Nat, u5 = .int .i64 k ∧ u1 = .int .i64 l ∧ k ≤ xs.length ∧ l ≤ 2000000000 := by
    obtain ⟨k, l, _, _, _, _, h1, h2, h3, h4, _⟩ := hrel
    have h5 := linsSize_take xs k
    have := HL.out
    have := HK.out
    exact ⟨k, l, h2, h3, h1, by omega⟩
   by_cases hlt : k < xs.length
   ·obtain ⟨b, o, B, d, lo, hi, z, rfl, c0, c1, f0, hbn, hrow, hfree, hnext⟩ := mark_at hrel hlt
    have hx := linsSize_mem (List.getElem_mem hlt)
    have hs9 : xs[k].2.length ≤ 1000000000 := by have := HL.out; omega
    have hbl := World.block_lt_of_cell? wr _ c0
    simp only at hbl
    have mset : Mod b (b + 1) wr (wr.setCell ⟨b, o + k * 2, none⟩ (.int .i64 l)) := Mod.set _ (p := ⟨b, o + k * 2, none⟩) (Nat.le_refl _) (Nat.lt_succ_self _) _
    have row1 := hrow.keep mset (by omega)
    have free1 := hfree.keep hrow (by rw [IntK.iv_len]; exact Nat.le_refl _) mset (by omega)
    generalize xs[k].2 = zs at *
    have MK := Lib.hid (IntK.mark lo hi B d (l + 1) zs _ row1 free1 (by omega))
    have hcast : ((l + 1 : Nat) : Int) = (l : Int) + 1 := by omega
    rw [hcast] at MK
    have HNX := Lib.hid hnext
    clear hrow hfree hnext hx row1 free1 mset hcast hbn hrel
    go_wp2_with fail
    refine (Calls.mono MK.out) ?_
    rintro e w2 ⟨rfl, r2, m2, f2⟩
    have HN := Lib.hid (HNX.out w2 r2 m2 f2)
    clear r2 m2 f2 c0 c1 f0
    go_wp2
    go_roundw
    case rel => exact (show MarkRel fp w xs _ k0 _ _ _ from by simpa using HN.out)
    case measure => simp [intOf]; omega
   ·obtain rfl : k = xs.length := by omega
    obtain ⟨h1, h2, h3⟩ := mark_end HC.out HNE.out hrel
    have F := Lib.hid (show MarkedS fp w A c k0 xs (.returned (.int .i64 l)) wr from ⟨by rw [h3], h1, h2⟩)
    clear h1 h2 h3 hrel
    go_wp2
    go_ret
    exact F.out
end Mem
end Go.Proofs.YtbbllkhmenpnlaaGreat

/-
  Systems as data in memory: the laws' helpers.
-/
namespace Go.Proofs.YtbbllkhmenpnlaaGreat
open Go.RowKit
namespace Mem
open RowK

def sys : Rep (Int × List (Int × List Int)) := Rep.prod Rep.int lins
theorem sys_open {q : Bool} {w : World} {fp : List Nat} {cs : List Value} {p : Int × List (Int × List Int)} (h : sys.rep q w fp cs p) : ∃ A c, cs = [.int .i64 p.1, .slice A p.2.length c] ∧ lins.rep q w fp [.slice A p.2.length c] p.2 := by
 obtain ⟨f1, f2, c1, c2, rfl, rfl, ⟨rfl, rfl⟩, h2⟩ := h
 obtain ⟨A, c, rfl, h3⟩ := h2
 exact ⟨A, c, rfl, A, c, rfl, h3⟩
theorem sys_close {q : Bool} {w : World} {fp : List Nat} {A : Option Addr} {c : Nat} {n : Int} {xs : List (Int × List Int)} (h : lins.rep q w fp [.slice A xs.length c] xs) : sys.rep q w fp [.int .i64 n, .slice A xs.length c] (n, xs) :=
 ⟨[], fp, _, _, rfl, rfl, ⟨rfl, rfl⟩, h⟩
theorem New.keep {α : Type} {r : Rep α} {w w1 w2 : World} {lo hi : Nat} {x : α} {cs : List Value} (h : New r w x w1 cs) (m : Mod lo hi w1 w2) (hd : hi ≤ w.heap.size) : New r w x w2 cs := by
 obtain ⟨fp, h1, h2, h3⟩ := h
 exact ⟨fp, Rep.keep h1 m (fun b hb => Or.inr (by have := h3 b hb; omega)), h2, h3⟩
theorem New.sys {w w1 : World} {A : Option Addr} {c : Nat} {n : Int} {xs : List (Int × List Int)} (h : New lins w xs w1 [.slice A xs.length c]) : New Mem.sys w (n, xs) w1 [.int .i64 n, .slice A xs.length c] := by
 obtain ⟨fp, h1, h2, h3⟩ := h
 exact ⟨fp, sys_close h1, h2, h3⟩

end Mem
end Go.Proofs.YtbbllkhmenpnlaaGreat
