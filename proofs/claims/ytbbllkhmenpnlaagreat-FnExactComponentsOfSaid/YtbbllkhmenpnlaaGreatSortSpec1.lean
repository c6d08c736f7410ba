import Derived.Test.YtbbllkhmenpnlaaGreatProg
import Derived.Test.YtbbllkhmenpnlaaGreatStrRow
import Derived.Test.YtbbllkhmenpnlaaGreatNameOps
import Derived.Test.YtbbllkhmenpnlaaGreatArgMath
import Derived.Test.YtbbllkhmenpnlaaGreatShelf
import Derived.Sort.OwnSorted
import Derived.Sort.Grow
import Derived.Lib.OwnBridge
import Derived.Lib.Hide
import Derived.Deep.QuietTactic
import Derived.BigQuiet
import Derived.Deep.RegionLaw
import Derived.Laws.AppendOwn
import Derived.Sort.Walk0
/-
  The program's SortNames and AllDistinct: a copy, sorted, repetitions struck.
-/
namespace Go.Proofs.YtbbllkhmenpnlaaGreat
open Go.RowKit Go.Shelf Go.Sort
namespace NameS
open SortM

def Own (w : World) (ls : List Bytes) (e : Ending) (w' : World) : Prop :=
 ∃ g cap, e = .returned (.slice (some ⟨g, 0, none⟩) (srt ls).length cap) ∧ w'.ownsRow w.heap.size 9 1 (.slice (some ⟨g, 0, none⟩) (srt ls).length cap) (srt ls).length ((srt ls).map encStr) ∧ Below w.heap.size w w'

theorem own_of {w w1 : World} {g cap n nn q : Nat} {os : Array Obj} {ss : List Bytes} (hown : w1.ownsRow w.heap.size 9 1 (.slice (some ⟨g, 0, none⟩) n cap) n (ss.map encStr)) (hbel : Below w.heap.size w w1) (hbg : w.heap.size ≤ g) (hlen : ss.length = n) :
  Own w ss (.returned (.slice (some ⟨g, 0, none⟩) (Lib.compact (ss.mergeSort fun x y => decide (x ≤ y))).length cap))
   (putRow encStr (Sort.ahead (grow (putRow encStr (Sort.ahead w1 nn) g 0 (ss.mergeSort fun x y => decide (x ≤ y)).toArray) os) q) g 0 (Lib.compact (ss.mergeSort fun x y => decide (x ≤ y)) ++ List.replicate (n - (Lib.compact (ss.mergeSort fun x y => decide (x ≤ y))).length) []).toArray) := by
 have hl2 : (ss.mergeSort fun x y => decide (x ≤ y)).length = ss.length := List.length_mergeSort ss
 have hle := Lib.compact_length_le (ss.mergeSort fun x y => decide (x ≤ y))
 subst hlen
 rcases hown.2 with ⟨h0, _⟩ | ⟨g', cap', cur, hv, hbase, hb, h1, h2, h3, h4⟩
 ·cases h0
 cases hv
 have hs := ownsRow_sorted (n := nn) (os := os) (ts := ss.mergeSort fun x y => decide (x ≤ y)) hl2 hbase hb h1 h2 h3
 have hc := Lib.ownsRow_putRow (q := q) (k := (Lib.compact (ss.mergeSort fun x y => decide (x ≤ y))).length) (ys := Lib.compact (ss.mergeSort fun x y => decide (x ≤ y)) ++ List.replicate (ss.length - (Lib.compact (ss.mergeSort fun x y => decide (x ≤ y))).length) []) hs (by simp; omega) (by omega)
 rw [List.take_left] at hc
 rw [compact_sort] at hc ⊢
 exact ⟨g, cap, rfl, hc, Lib.below_putRow (hbel.grown (grownBy_sorted _) hbel.size (fun j hj => by cases hj; exact hbase)) hbg⟩

set_option maxHeartbeats 2000000 in
set_option maxRecDepth 100000 in
theorem sort_tail (n : Nat) (arg : Value) (ls : List Bytes) (w : World) (hn : n ≤ 4611686018427387903)
  (hclone : Calls Tryz.prog 164 #[arg] w fun e w' => ∃ v', e = .returned v' ∧ w'.ownsRow w.heap.size 9 1 v' n (ls.map encStr) ∧ v' ≠ .slice none 0 0 ∧ Below w.heap.size w w') :
  Calls Tryz.prog 122 #[arg] w (Own w ls) := by
 have HC := Lib.hid hclone
 clear hclone
 go_enter Tryz.func122, Tryz.ntmps122
 go_wp2_with fail
 refine (Calls.mono HC.out) ?_
 rintro e w1 ⟨v1, rfl, hown, hnn, hbel⟩
 obtain ⟨g, cap, rfl, hbg, hgl, hncap, hcm, hlen, hH⟩ := Lib.holds_of_ownsRow hown hnn
 have hsort := Tryz.slices_Sort_string g 0 cap ls w1 hH hgl (by omega)
 rw [hlen] at hsort
 have HS := Lib.hid hsort
 have HX := Lib.hid (And.intro hown (And.intro hbel hH))
 have HL := Lib.hid hlen
 clear hsort hown hbel hH hnn hlen
 go_wp2_with fail
 refine (Calls.mono HS.out) ?_
 rintro e w2 ⟨rfl, nn, os, rfl⟩
 have hl2 : (ls.mergeSort fun x y => decide (x ≤ y)).length = n := by rw [List.length_mergeSort]; exact HL.out
 have hH2 : Holds encStr (grow (putRow encStr (Sort.ahead w1 nn) g 0 (ls.mergeSort fun x y => decide (x ≤ y)).toArray) os) g 0 (ls.mergeSort fun x y => decide (x ≤ y)).toArray :=
  holds_grow encStr _ os g 0 _ (by simpa [putRow, mapBlock, Sort.ahead] using hgl) (holds_putRow encStr _ g 0 _ _ (holds_ahead encStr w1 nn g 0 _ HX.out.2.2) (by simp))
 have hcomp := Tryz.slices_Compact_string g 0 cap (ls.mergeSort fun x y => decide (x ≤ y)) _ hH2 (by omega) (by omega)
 rw [hl2] at hcomp
 have HC2 := Lib.hid hcomp
 clear hcomp hH2 hl2
 go_wp2_with fail
 refine (Calls.mono HC2.out) ?_
 rintro e w3 ⟨rfl, q, rfl⟩
 have HF := Lib.hid (own_of (nn := nn) (q := q) (os := os) HX.out.1 HX.out.2.1 hbg HL.out)
 go_wp2
 go_ret
 exact HF.out

theorem map_enc (ss : List ByteArray) : (ss.map fun s => s.data.toList).map encStr = ss.map Value.string := Lib.map_encStr ss

theorem implSort (A : Option Addr) (c : Nat) (ss : List ByteArray) (w : World) (hA : StrK.SRow w A ss) (hl : ss.length ≤ 1000000000000) :
  Calls Tryz.prog 122 #[.slice A ss.length c] w (StrK.Gave w (srtB ss)) := by
 have fin : ∀ {ls : List Bytes} {e w'}, ls = ss.map (fun s => s.data.toList) → Own w ls e w' → StrK.Gave w (srtB ss) e w' := by
  rintro ls e w' rfl ⟨g, cap, rfl, hown, hb⟩
  have hlen : (srt (ss.map fun s => s.data.toList)).length = (srtB ss).length := by simp [srtB]
  have hm : (srt (ss.map fun s => s.data.toList)).map encStr = (srtB ss).map Value.string := by rw [← srtB_data, map_enc]
  rw [hlen, hm] at hown
  rw [hlen]
  obtain ⟨A', cap', e, h1, h2, h3, h4⟩ := StrK.of_own hown
  injection e with e1 e2 e3
  subst e1; subst e3
  exact ⟨_, _, rfl, h1, h2, hb, h3, h4⟩
 by_cases hn : ss = []
 ·subst hn
  cases A with
  | some a =>
   exact (sort_tail 0 _ [] w (by omega) ((Tryz.slices_Clone_string_zero a c w).mono fun e w' ⟨v', h1, h2, h3, h4⟩ => ⟨v', h1, h2, h3, h4⟩)).mono fun e w' h => fin rfl h
  | none =>
   go_enter Tryz.func122, Tryz.ntmps122
   go_wp2_with fail
   refine (Tryz.slices_Clone_string_nil _ _ _).mono ?_
   rintro e w' ⟨rfl, rfl⟩
   go_wp2_with fail
   refine (Tryz.slices_Sort_string_none _ _ _).mono ?_
   rintro e w' ⟨rfl, rfl⟩
   go_wp2_with fail
   refine (Tryz.slices_Compact_string_empty _ _ _).mono ?_
   rintro e w' ⟨rfl, rfl⟩
   go_wp2
   go_ret
   exact ⟨none, 0, rfl, fun h => absurd rfl h, fun h => by simp [srtB, srt] at h, Below.refl _ _, (fun a e => by cases e), Nat.le_refl _⟩
 ·obtain ⟨b, o, rfl, hb, hc⟩ := hA hn
  refine (sort_tail ss.length _ (ss.map fun s => s.data.toList) w (by omega) ((Tryz.slices_Clone_string b o ss.length c ss w (Nat.le_refl _) (by omega) (fun j hj => ?_)).mono fun e w' ⟨v', h1, h2, h3, h4⟩ => ⟨v', h1, ?_, h3, h4⟩)).mono fun e w' h => fin rfl h
  ·rw [hc j ss[j] (List.getElem?_eq_getElem hj), List.getD, List.getElem?_eq_getElem hj]; rfl
  ·rw [map_enc]
   rw [List.take_length] at h2
   exact h2

def dist (ss : List ByteArray) : Bool := decide ((srtB ss).length = ss.length)

theorem implDistinct (A : Option Addr) (c : Nat) (ss : List ByteArray) (w : World) (hA : StrK.SRow w A ss) (hl : ss.length ≤ 1000000000000) :
  Calls Tryz.prog 82 #[.slice A ss.length c] w fun e w' => e = .returned (.bool (dist ss)) ∧ Below w.heap.size w w' := by
 have HS := Lib.hid (implSort A c ss w hA hl)
 have HD : Hid (dist ss = decide (((srtB ss).length : Int) = (ss.length : Int))) := Lib.hid (by
  unfold dist; rw [Bool.eq_iff_iff, decide_eq_true_eq, decide_eq_true_eq]; omega)
 have hle := srtB_length ss
 generalize dist ss = db at *
 generalize srtB ss = os at *
 go_enter Tryz.func82, Tryz.ntmps82
 go_wp2_with fail
 refine (Calls.mono HS.out) ?_
 rintro e w1 ⟨B, cb, rfl, rb, _, b1, _, _⟩
 go_wp2
 go_ret
 exact ⟨ret_bool (by rw [HD.out]; rfl), b1⟩
end NameS
end Go.Proofs.YtbbllkhmenpnlaaGreat

/-
  The model's SortNames: every text is put into its place in what has been sorted before.
-/
namespace Go.Proofs.YtbbllkhmenpnlaaGreat
open Go.RowKit Go.Sort
namespace NameS
open SortM

theorem step_append_own {P : Program} {ops : Array Oper} {w : World} {E : Prop} {o : Oper} {a : Act} {K : Act → World → Prop} {Q : Exit → Act → World → Prop} (hgd : o.guard = none) (s x : Operand) (t : TypeId)
  (ho : o.op = .call { callee := .builtin .append, args := #[s, x], argTypes := #[t, t] })
  (base : Nat) (e : TypeId) (i : TypeInfo) (z : Value) (size bytes : Nat) (ht : P.underlying t = some (.slice e)) (hi : P.info? e = some i) (hz : i.zero = some z)
  (hsize : i.size = size) (hby : i.bytes = bytes) (hzs : z.cells.size = size) (hsz : 0 < size)
  (v : Value) (n : Nat) (xs : List Value) (hs : a.eval s = v) (hown : w.ownsRow base e size v n xs)
  (ad : Addr) (m c : Nat) (news : List Value) (hx : a.eval x = .slice (some ad) m c) (hl : news.length = m * size) (hnews : ∀ j u, news[j]? = some u → w.cell? (ad.add j) = some u) (h1 : ∀ u ∈ news, u.oneCell' = true)
  (h63 : n + m ≤ maxLen) (hbytes : (n + m) * bytes ≤ 140737488355328) (hbase : base ≤ w.heap.size)
  (h : ∀ v' w', w'.ownsRow base e size v' (n + m) (xs ++ news) → w.grownBy w' v.ownBlock → (v' = .slice none 0 0 ↔ v = .slice none 0 0 ∧ m = 0) → K (a.put o.dst v') w') :
  if Region.wanted o (yielded ops a.tmps) = true then Oper.wp P o a w K Q else E := by
 have hw : Region.wanted o (yielded ops a.tmps) = true := by simp [Region.wanted, hgd]
 rw [if_pos hw]
 exact wp_append_own w s x t ho base e i z size bytes ht hi hz hsize hby hzs hsz v n xs hs hown ad m c news hx hl hnews h1 h63 hbytes hbase h

theorem add_g (g j i : Nat) : (⟨g, j, none⟩ : Addr).add i = ⟨g, j + i, none⟩ := by
 unfold Addr.add
 split
 ·rename_i h; subst h; rfl
 ·rfl

theorem own_form {w : World} {base n : Nat} {e : TypeId} {v : Value} {xs : List Value} (h : w.ownsRow base e 1 v n xs) (hv : v ≠ .slice none 0 0) :
  ∃ g cap, v = .slice (some ⟨g, 0, none⟩) n cap ∧ base ≤ g ∧ g < w.heap.size ∧ n ≤ cap ∧ cap ≤ maxLen ∧ ∀ i u, xs[i]? = some u → w.cell? ⟨g, i, none⟩ = some u := by
 rcases h.2 with ⟨e0, _⟩ | ⟨g, cap, cur, rfl, hb, hg, hn, hm, hs, ht⟩
 ·exact absurd e0 hv
 ·refine ⟨g, cap, rfl, hb, ?_, hn, hm, fun i u hu => ?_⟩
  ·rcases Nat.lt_or_ge g w.heap.size with h' | h'
   ·exact h'
   ·rw [Array.getElem?_eq_none h'] at hg; cases hg
  ·have hi := (List.getElem?_eq_some_iff.1 hu).1
   rw [h.cellAt i (by have := h.1; omega)]; exact hu

theorem less_eq (t s : ByteArray) : Op.bytesLess t.toList s.toList = decide (t.data.toList < s.data.toList) := by
 rw [Lib.toList_data, Lib.toList_data, bytesLess_eq]

theorem pos_data {done : List ByteArray} {s : ByteArray} {j : Nat} (h1 : j ≤ done.length) (h2 : ∀ i t, i < j → done[i]? = some t → t.data.toList < s.data.toList) (h3 : ∀ t, done[j]? = some t → ¬ t.data.toList < s.data.toList) :
  pos s.data.toList (done.map fun s => s.data.toList) = j := by
 refine pos_eq (by simpa using h1) (fun i y hi hy => ?_) (fun y hy => ?_)
 ·rw [List.getElem?_map] at hy
  obtain ⟨t, ht, rfl⟩ := Option.map_eq_some_iff.1 hy
  exact h2 i t hi ht
 ·rw [List.getElem?_map] at hy
  obtain ⟨t, ht, rfl⟩ := Option.map_eq_some_iff.1 hy
  exact h3 t ht

theorem data_inj {l m : List ByteArray} (h : l.map (fun s => s.data.toList) = m.map (fun s => s.data.toList)) : l = m := by
 induction l generalizing m with
 | nil => cases m with | nil => rfl | cons y m => simp at h
 | cons x l ih =>
  cases m with
  | nil => simp at h
  | cons y m =>
   simp only [List.map_cons, List.cons.injEq] at h
   rw [NameM.toList_inj h.1, ih h.2]

theorem srtB_step {ss done : List ByteArray} {k : Nat} {s : ByteArray} (hk : ss[k]? = some s) (hd : done = srtB (ss.take k)) :
  (srtB (ss.take (k + 1))).map (fun s => s.data.toList) = ins s.data.toList (done.map fun s => s.data.toList) := by
 rw [hd, srtB_data, srtB_data, List.map_take, List.map_take]
 exact take_step _ k _ (by rw [List.getElem?_map, hk]; rfl)

theorem srtB_same {ss done : List ByteArray} {k j : Nat} {s : ByteArray} (hk : ss[k]? = some s) (hd : done = srtB (ss.take k)) (hp : pos s.data.toList (done.map fun s => s.data.toList) = j) (hj : done[j]? = some s) : done = srtB (ss.take (k + 1)) := by
 refine data_inj ?_
 rw [srtB_step hk hd]
 unfold ins
 rw [hp, if_pos (by rw [List.getElem?_map, hj]; rfl)]

theorem srtB_put {ss done : List ByteArray} {k j : Nat} {s : ByteArray} (hk : ss[k]? = some s) (hd : done = srtB (ss.take k)) (hp : pos s.data.toList (done.map fun s => s.data.toList) = j) (hj : done[j]? ≠ some s) : done.take j ++ [s] ++ done.drop j = srtB (ss.take (k + 1)) := by
 refine data_inj ?_
 rw [srtB_step hk hd]
 unfold ins
 rw [hp, if_neg (fun h => by
  rw [List.getElem?_map] at h
  obtain ⟨t, ht, e⟩ := Option.map_eq_some_iff.1 h
  exact hj (by rw [ht, NameM.toList_inj e]))]
 simp

theorem own_take {w : World} {base g cap n k : Nat} {e : TypeId} {xs : List Value} (h : w.ownsRow base e 1 (.slice (some ⟨g, 0, none⟩) n cap) n xs) (hk : k ≤ n) : w.ownsRow base e 1 (.slice (some ⟨g, 0, none⟩) k cap) k (xs.take k) := by
 rcases h.2 with ⟨e0, _⟩ | ⟨g', cap', cur, hv, h1, h2, h3, h4, h5, h6⟩
 ·cases e0
 ·cases hv
  have hl := h.1
  refine ⟨by rw [List.length_take]; omega, Or.inr ⟨g, cap, cur, rfl, h1, h2, by omega, h4, h5, ?_⟩⟩
  rw [← h6, List.take_take]
  congr 1
  omega

set_option maxHeartbeats 2000000 in
set_option maxRecDepth 100000 in
theorem specSort (A : Option Addr) (c : Nat) (ss : List ByteArray) (w : World) (hA : StrK.SRow w A ss) (hl : ss.length ≤ 100000000) :
  Calls Tryz.prog 185 #[.slice A ss.length c] w (StrK.Gave w (srtB ss)) := by
 obtain ⟨i0, hi, hz0, hz1, hz2⟩ := info_parts stringInfo
 go_enter Tryz.func185, Tryz.ntmps185
 go_wp2
 go_loopw [3, 4] (fun v i wr => ∃ (k g cap : Nat) (done : List ByteArray), k ≤ ss.length ∧ i = .int .i64 k ∧ v = .slice (some ⟨g, 0, none⟩) done.length cap ∧ Hid (done = srtB (ss.take k)) ∧ done.length ≤ k ∧ g < wr.heap.size ∧ done.length ≤ cap ∧ cap ≤ maxLen ∧ w.heap.size ≤ g ∧
   wr.ownsRow w.heap.size 9 1 (.slice (some ⟨g, 0, none⟩) done.length cap) done.length (done.map Value.string) ∧ Below w.heap.size w wr) (fun _ i _ => ss.length - (intOf i).toNat)
 case atStart => exact ⟨0, w.heap.size, 0, [], Nat.zero_le _, rfl, rfl, Lib.hid rfl, Nat.zero_le _, by simp, Nat.le_refl _, by simp, Nat.le_refl _, ⟨by simp, Or.inr ⟨_, 0, #[], rfl, Nat.le_refl _, heap_alloc_new _ _, by simp, by simp, by simp, by simp⟩⟩, (Below.refl _ _).alloc (Nat.le_refl _) _⟩
 case round =>
  obtain ⟨k, g, cap, done, hk, rfl, rfl, hdone, hcnt, hgl, hdc, hcm, hbg, hown, hb⟩ := hrel
  unfold maxLen at hcm
  have hsz := hb.size
  by_cases hlt : k < ss.length
  ·obtain ⟨b, o, rfl, hbl, hc⟩ := (hA.below hb).at_ hlt
   have hg := List.getElem?_eq_getElem hlt
   generalize ss[k] = s at hc hg
   have HG := Lib.hid hg
   clear hg
   have hi0 : (0 : Int) ≤ (k : Int) := by omega
   have hi1 : (k : Int) < (ss.length : Int) := by omega
   go_wp2
   go_loopw [5] (fun a wq => ∃ (j n : Nat), j ≤ done.length ∧ a = .int .i64 j ∧ wq = wr.drewN n ∧ ∀ i t, i < j → done[i]? = some t → t.data.toList < s.data.toList) (fun a _ => done.length - (intOf a).toNat)
   case atStart => exact ⟨0, 0, Nat.zero_le _, rfl, rfl, fun i t h => absurd h (Nat.not_lt_zero _)⟩
   case round =>
    obtain ⟨j, n, hj, rfl, rfl, hlow⟩ := hrel
    have HLow := Lib.hid hlow
    clear hlow
    by_cases hjl : j < done.length
    ·have hcj : wr.cell? ⟨g, j, none⟩ = some (.string done[j]) := by
      rw [hown.cellAt j (by omega), List.getElem?_map, List.getElem?_eq_getElem hjl]; rfl
     have hgj := List.getElem?_eq_getElem hjl
     generalize done[j] = t at hcj hgj
     have HGJ := Lib.hid hgj
     clear hgj
     have hj0 : (0 : Int) ≤ (j : Int) := by omega
     have hj1 : (j : Int) < (done.length : Int) := by omega
     cases hless : Op.bytesLess t.toList s.toList with
     | true =>
      go_wp2
      go_quiet (fail)
      go_wp2
      go_roundw
      case rel =>
       refine ⟨j + 1, _, by omega, by go_num, rfl, fun i u hi hu => ?_⟩
       by_cases e : i = j
       ·subst e
        obtain rfl := Option.some.inj (HGJ.out.symm.trans hu)
        rw [less_eq] at hless
        exact of_decide_eq_true hless
       ·exact HLow.out i u (by omega) hu
      case measure => simp [intOf]; omega
     | false =>
      have hposB := pos_data (Nat.le_of_lt hjl) HLow.out (fun u hu => by
       obtain rfl := Option.some.inj (HGJ.out.symm.trans hu)
       rw [less_eq] at hless
       exact of_decide_eq_false hless)
      cases heq : (t.toList == s.toList) with
      | true =>
       have hD : Hid (done = srtB (ss.take (k + 1))) := Lib.hid (srtB_same HG.out hdone.out hposB (by rw [HGJ.out]; exact congrArg some ((Lib.bytes_beq_iff _ _).1 heq)))
       clear hposB
       go_wp2
       go_quiet (fail)
       go_wp2
       go_quiet (fail)
       go_wp2
       go_roundw
       case rel => exact ⟨k + 1, g, cap, done, by omega, by go_num, rfl, hD, by omega, hgl, hdc, hcm, hbg, hown, below_drewN hb _⟩
       case measure => simp [intOf]; omega
      | false =>
       have hpos := hposB
       have hnew : done[j]? ≠ some s := fun e => by
        rw [HGJ.out] at e
        exact (Lib.bytes_beq_false_iff _ _).1 heq (Option.some.inj e)
       clear hposB
       have hjm : j ≤ done.length := by omega
       go_wp2
       go_quiet (fail)
       go_wp2
       go_quiet (fail)
       have HP := Lib.hid hpos
       have HN := Lib.hid hnew
       clear hpos hnew
       try simp only [World.drewN_drewN]
       generalize hW : wr.drewN _ = W
       have hownW : W.ownsRow w.heap.size 9 1 (.slice (some ⟨g, 0, none⟩) done.length cap) done.length (done.map Value.string) := by rw [← hW]; exact hown
       have hbW : Below w.heap.size w W := by rw [← hW]; exact below_drewN hb _
       have hcW : W.cell? ⟨b, o + k, none⟩ = some (.string s) := by rw [← hW]; exact hc
       have hgW : g < W.heap.size := by rw [← hW]; exact hgl
       have hblW : b < W.heap.size := by rw [← hW]; exact hbl
       clear hW hown hb hc hgl hbl hsz
       have hszW := hbW.size
       have hown0 : (W.alloc (.cells #[] 9)).ownsRow W.heap.size 9 1 (.slice (some ⟨W.heap.size, 0, none⟩) 0 0) 0 [] := ⟨by simp, Or.inr ⟨_, 0, #[], rfl, Nat.le_refl _, heap_alloc_new _ _, by simp, by simp, by simp, by simp⟩⟩
       have hj0 : (0 : Int) ≤ (j : Int) := by omega
       have hjd : (j : Int) ≤ (done.length : Int) := by omega
       have hdc' : (done.length : Int) ≤ (cap : Int) := by omega
       have hjc : ¬ cap = j ∨ cap = j := by omega
       have hnews : ∀ i u, ((done.drop j).map Value.string)[i]? = some u → (W.alloc (.cells #[] 9)).cell? ⟨g, j + i, none⟩ = some u := fun i u hu => by
        have hi' : i < done.length - j := by
         have := (List.getElem?_eq_some_iff.1 hu).1
         simpa using this
        rw [World.cell?_alloc_lt W _ _ hgW, hownW.cellAt (j + i) (by omega), ← hu, List.getElem?_map, List.getElem?_map, List.getElem?_drop]
       by_cases hcj : cap = j
       ·subst hcj
        have hd0 : done.length - cap = 0 := by omega
        have hR : ∃ rg rc, Value.slice (some ⟨W.heap.size, 0, none⟩) 0 0 = Value.slice (some ⟨rg, 0, none⟩) (done.length - cap) rc ∧ W.heap.size ≤ rg ∧ rg < (W.alloc (.cells #[] 9)).heap.size := ⟨_, _, by rw [hd0], Nat.le_refl _, by simp⟩
        have hrc : ∀ i u, ((done.drop cap).map Value.string)[i]? = some u → (W.alloc (.cells #[] 9)).cell? ⟨W.heap.size, i, none⟩ = some u := fun i u hu => by
         have := (List.getElem?_eq_some_iff.1 hu).1
         simp at this
         omega
        have hb2 : Below w.heap.size w (W.alloc (.cells #[] 9)) := hbW.alloc hszW _
        have hown2 := hownW.alloc (.cells #[] 9)
        have hc2 : (W.alloc (.cells #[] 9)).cell? ⟨b, o + k, none⟩ = some (.string s) := by rw [World.cell?_alloc_lt W _ _ hblW]; exact hcW
        have HD0 := Lib.hid hd0
        have HS := Lib.hid (And.intro hb2 (And.intro hown2 hc2))
        clear hR hb2 hown2
        go_wp2_with fail
        clear hd0
        generalize hW2 : W.alloc (.cells #[] 9) = W2 at *
        have hb2 : Below w.heap.size w W2 := HS.out.1
        have hown2 := HS.out.2.1
        have hgr : ∃ rg, rg = W.heap.size := ⟨_, rfl⟩
        obtain ⟨rg, hrg⟩ := hgr
        rw [← hrg] at hrc ⊢
        have hrgg : g < rg := by omega
        have hrgl : rg < W2.heap.size := by rw [hrg, ← hW2]; simp
        have hrest0 : 0 = done.length - cap := HD0.out.symm
        clear hrest0 hrg hW2
        have hdl : (done.drop cap).length = done.length - cap := by simp
        have hb2W := Lib.hid hb2
        have hszW2 := hb2.size
        clear hb2
        have hjcap : cap ≤ cap := by omega
        have hjcap' : (cap : Int) ≤ (cap : Int) := by omega
        go_wp2_with fail
        go_region_law (first
         | ((refine step_append_own rfl (.tmp 53) (.tmp 58) 31 rfl w.heap.size 9 i0 (.string ByteArray.empty) 1 16 Tryz.underlying31 hi hz0 hz1 hz2 rfl (by decide) (.slice (some ⟨g, 0, none⟩) cap cap) cap ((done.map Value.string).take cap) rfl ((own_take hown2 hjm).alloc _) ⟨W2.heap.size, 0, none⟩ 1 1 [.string s] rfl rfl (cell_one_new _ _ _) (by simp [Value.oneCell']) (by unfold maxLen; omega) (by omega) (by simp <;> omega) ?_); intro v3 W3 hv3 hgrow3 hnil3)
         | ((refine step_append_own rfl (.tmp 59) (.tmp 60) 31 rfl w.heap.size 9 i0 (.string ByteArray.empty) 1 16 Tryz.underlying31 hi hz0 hz1 hz2 rfl (by decide) v3 (cap + 1) _ rfl hv3 ⟨rg, 0, none⟩ 0 _ ((done.drop cap).map Value.string) rfl (by simp <;> omega) (fun i u hu => by
            rw [add_g, Nat.zero_add, World.cell?_of_block (hgrow3.block rg (by simp; omega) (by show some rg ≠ some g; intro e; injection e with e; omega))]
            show (W2.alloc (.cells #[Value.string s] 9)).cell? ⟨rg, i, none⟩ = some u
            rw [World.cell?_alloc_lt _ _ _ hrgl]
            exact hrc i u hu) (fun u hu => by obtain ⟨s, _, rfl⟩ := List.mem_map.1 hu; rfl) (by unfold maxLen; omega) (by omega) (by have := hgrow3.size; simp at this; omega) ?_); intro v4 W4 hv4 hgrow4 hnil4))
        have hb4 : Below w.heap.size w W4 := ((hb2W.out.drew.alloc (by simpa using hszW2) _).grown hgrow3 (by simp; omega) (fun q hj => by cases hj; exact hbg)).grown hgrow4 (by have := hgrow3.size; simp at this; omega) (fun q hj => (hv3.lt q hj).1)
        have hlen4 : cap + 1 + 0 = (done.take cap ++ [s] ++ done.drop cap).length := by simp; omega
        have hv4' : W4.ownsRow w.heap.size 9 1 v4 (done.take cap ++ [s] ++ done.drop cap).length ((done.take cap ++ [s] ++ done.drop cap).map Value.string) := by
         rw [← hlen4]
         simpa [List.map_take, List.map_drop] using hv4
        have hD : Hid (done.take cap ++ [s] ++ done.drop cap = srtB (ss.take (k + 1))) := Lib.hid (srtB_put HG.out hdone.out HP.out HN.out)
        have hne4 : v4 ≠ .slice none 0 0 := fun e => by
         have h3 := (hnil4.1 e).1
         have h2 := (hnil3.1 h3).1
         cases h2
        obtain ⟨g4, cap4, rfl, q1, q2, q3, q4, _⟩ := own_form hv4' hne4
        have hl5 : (done.take cap ++ [s] ++ done.drop cap).length ≤ k + 1 := by rw [← hlen4]; omega
        clear hne4 hnil4 hnil3 hlen4 hv4 hgrow4 hgrow3 hv3 HS hdl
        generalize (done.take cap ++ [s] ++ done.drop cap) = done4 at *
        go_wp2
        go_roundw
        case rel => exact ⟨k + 1, g4, cap4, done4, by omega, by go_num, rfl, hD, by omega, q2, q3, q4, q1, hv4', hb4⟩
        case measure => simp [intOf]; omega
       ·go_wp2_with (at_builtin; go_loud (refine wpList_append_own _ rfl (.tmp 46) (.tmp 49) 31 rfl W.heap.size 9 i0 (.string ByteArray.empty) 1 16 Tryz.underlying31 hi hz0 hz1 hz2 rfl (by decide) _ _ _ rfl hown0 ⟨g, j, none⟩ (done.length - j) (cap - j) ((done.drop j).map Value.string) rfl (by simp) (fun i u hu => by rw [add_g]; exact hnews i u hu) (fun u hu => by obtain ⟨s, _, rfl⟩ := List.mem_map.1 hu; rfl) (by unfold maxLen; omega) (by omega) (by simp) ?_); intro v1 W2 hv1 hgrow2 hnil)
        have hb1 : Below w.heap.size w (W.alloc (.cells #[] 9)) := hbW.alloc hszW _
        have hb2 : Below w.heap.size w W2 := hb1.grown hgrow2 (by simp; omega) (fun j hj => Nat.le_trans hszW (hown0.lt j hj).1)
        have hne : v1 ≠ .slice none 0 0 := fun e => by have := (hnil.1 e).1; cases this
        obtain ⟨rg, rc, rfl, hrg, hrgl, _, _, hrc⟩ := own_form hv1 hne
        have hown2 := (hownW.alloc (.cells #[] 9)).kept hgrow2 (Or.inr (by show some g ≠ some W.heap.size; intro e; injection e with e; omega))
        have hc2 : W2.cell? ⟨b, o + k, none⟩ = some (.string s) := by
         rw [World.cell?_of_block (w := W.alloc (.cells #[] 9)) (hgrow2.block b (by simp; omega) (by show some b ≠ some W.heap.size; intro e; injection e with e; omega)), World.cell?_alloc_lt W _ _ hblW]
         exact hcW
        simp only [List.nil_append] at hrc
        have hrgg : g < rg := by omega
        have hrest0 : 0 + (done.length - j) = done.length - j := by omega
        have HS := Lib.hid (And.intro hb2 (And.intro hown2 hc2))
        clear hnil hne hgrow2 hv1 hb1 hown0 hnews
        go_wp2_with fail
        rw [hrest0]
        clear hrest0
        have hdl : (done.drop j).length = done.length - j := by simp
        have hb2W := Lib.hid hb2
        have hszW2 := hb2.size
        clear hb2
        have hjcap : j ≤ cap := by omega
        have hjcap' : (j : Int) ≤ (cap : Int) := by omega
        go_wp2_with fail
        go_region_law (first
         | ((refine step_append_own rfl (.tmp 53) (.tmp 58) 31 rfl w.heap.size 9 i0 (.string ByteArray.empty) 1 16 Tryz.underlying31 hi hz0 hz1 hz2 rfl (by decide) (.slice (some ⟨g, 0, none⟩) j cap) j ((done.map Value.string).take j) rfl ((own_take hown2 hjm).alloc _) ⟨W2.heap.size, 0, none⟩ 1 1 [.string s] rfl rfl (cell_one_new _ _ _) (by simp [Value.oneCell']) (by unfold maxLen; omega) (by omega) (by simp <;> omega) ?_); intro v3 W3 hv3 hgrow3 hnil3)
         | ((refine step_append_own rfl (.tmp 59) (.tmp 60) 31 rfl w.heap.size 9 i0 (.string ByteArray.empty) 1 16 Tryz.underlying31 hi hz0 hz1 hz2 rfl (by decide) v3 (j + 1) _ rfl hv3 ⟨rg, 0, none⟩ (done.length - j) _ ((done.drop j).map Value.string) rfl (by simp <;> omega) (fun i u hu => by
            rw [add_g, Nat.zero_add, World.cell?_of_block (hgrow3.block rg (by simp; omega) (by show some rg ≠ some g; intro e; injection e with e; omega))]
            show (W2.alloc (.cells #[Value.string s] 9)).cell? ⟨rg, i, none⟩ = some u
            rw [World.cell?_alloc_lt _ _ _ hrgl]
            exact hrc i u hu) (fun u hu => by obtain ⟨s, _, rfl⟩ := List.mem_map.1 hu; rfl) (by unfold maxLen; omega) (by omega) (by have := hgrow3.size; simp at this; omega) ?_); intro v4 W4 hv4 hgrow4 hnil4))
        have hb4 : Below w.heap.size w W4 := ((hb2W.out.drew.alloc (by simpa using hszW2) _).grown hgrow3 (by simp; omega) (fun q hj => by cases hj; exact hbg)).grown hgrow4 (by have := hgrow3.size; simp at this; omega) (fun q hj => (hv3.lt q hj).1)
        have hlen4 : j + 1 + (done.length - j) = (done.take j ++ [s] ++ done.drop j).length := by simp; omega
        have hv4' : W4.ownsRow w.heap.size 9 1 v4 (done.take j ++ [s] ++ done.drop j).length ((done.take j ++ [s] ++ done.drop j).map Value.string) := by
         rw [← hlen4]
         simpa [List.map_take, List.map_drop] using hv4
        have hD : Hid (done.take j ++ [s] ++ done.drop j = srtB (ss.take (k + 1))) := Lib.hid (srtB_put HG.out hdone.out HP.out HN.out)
        have hne4 : v4 ≠ .slice none 0 0 := fun e => by
         have h3 := (hnil4.1 e).1
         have h2 := (hnil3.1 h3).1
         cases h2
        obtain ⟨g4, cap4, rfl, q1, q2, q3, q4, _⟩ := own_form hv4' hne4
        have hl5 : (done.take j ++ [s] ++ done.drop j).length ≤ k + 1 := by rw [← hlen4]; omega
        clear hne4 hnil4 hnil3 hlen4 hv4 hgrow4 hgrow3 hv3 HS hdl
        generalize (done.take j ++ [s] ++ done.drop j) = done4 at *
        go_wp2
        go_roundw
        case rel => exact ⟨k + 1, g4, cap4, done4, by omega, by go_num, rfl, hD, by omega, q2, q3, q4, q1, hv4', hb4⟩
        case measure => simp [intOf]; omega
    ·have hjm : j ≤ done.length := by omega
     have hje : j = done.length := by omega
     have hpos := pos_data hjm HLow.out (fun u hu => by rw [List.getElem?_eq_none (by omega)] at hu; cases hu)
     have hnew : done[j]? ≠ some s := fun e => by rw [List.getElem?_eq_none (by omega)] at e; cases e
     have hd1 : decide ((j : Int) < (done.length : Int)) = false := decide_eq_false (by omega)
     have hd2 : decide (j < done.length) = false := decide_eq_false (by omega)
     go_wp2
     go_quiet (fail)
     go_wp2
     go_quiet (fail)
     clear hje hd1 hd2 hjl
     have HP := Lib.hid hpos
     have HN := Lib.hid hnew
     clear hpos hnew
     try simp only [World.drewN_drewN]
     generalize hW : wr.drewN _ = W
     have hownW : W.ownsRow w.heap.size 9 1 (.slice (some ⟨g, 0, none⟩) done.length cap) done.length (done.map Value.string) := by rw [← hW]; exact hown
     have hbW : Below w.heap.size w W := by rw [← hW]; exact below_drewN hb _
     have hcW : W.cell? ⟨b, o + k, none⟩ = some (.string s) := by rw [← hW]; exact hc
     have hgW : g < W.heap.size := by rw [← hW]; exact hgl
     have hblW : b < W.heap.size := by rw [← hW]; exact hbl
     clear hW hown hb hc hgl hbl hsz
     have hszW := hbW.size
     have hown0 : (W.alloc (.cells #[] 9)).ownsRow W.heap.size 9 1 (.slice (some ⟨W.heap.size, 0, none⟩) 0 0) 0 [] := ⟨by simp, Or.inr ⟨_, 0, #[], rfl, Nat.le_refl _, heap_alloc_new _ _, by simp, by simp, by simp, by simp⟩⟩
     have hj0 : (0 : Int) ≤ (j : Int) := by omega
     have hjd : (j : Int) ≤ (done.length : Int) := by omega
     have hdc' : (done.length : Int) ≤ (cap : Int) := by omega
     have hjc : ¬ cap = j ∨ cap = j := by omega
     have hnews : ∀ i u, ((done.drop j).map Value.string)[i]? = some u → (W.alloc (.cells #[] 9)).cell? ⟨g, j + i, none⟩ = some u := fun i u hu => by
      have hi' : i < done.length - j := by
       have := (List.getElem?_eq_some_iff.1 hu).1
       simpa using this
      rw [World.cell?_alloc_lt W _ _ hgW, hownW.cellAt (j + i) (by omega), ← hu, List.getElem?_map, List.getElem?_map, List.getElem?_drop]
     by_cases hcj : cap = j
     ·subst hcj
      have hd0 : done.length - cap = 0 := by omega
      have hR : ∃ rg rc, Value.slice (some ⟨W.heap.size, 0, none⟩) 0 0 = Value.slice (some ⟨rg, 0, none⟩) (done.length - cap) rc ∧ W.heap.size ≤ rg ∧ rg < (W.alloc (.cells #[] 9)).heap.size := ⟨_, _, by rw [hd0], Nat.le_refl _, by simp⟩
      have hrc : ∀ i u, ((done.drop cap).map Value.string)[i]? = some u → (W.alloc (.cells #[] 9)).cell? ⟨W.heap.size, i, none⟩ = some u := fun i u hu => by
       have := (List.getElem?_eq_some_iff.1 hu).1
       simp at this
       omega
      have hb2 : Below w.heap.size w (W.alloc (.cells #[] 9)) := hbW.alloc hszW _
      have hown2 := hownW.alloc (.cells #[] 9)
      have hc2 : (W.alloc (.cells #[] 9)).cell? ⟨b, o + k, none⟩ = some (.string s) := by rw [World.cell?_alloc_lt W _ _ hblW]; exact hcW
      have HD0 := Lib.hid hd0
      have HS := Lib.hid (And.intro hb2 (And.intro hown2 hc2))
      clear hR hb2 hown2
      go_wp2_with fail
      clear hd0
      generalize hW2 : W.alloc (.cells #[] 9) = W2 at *
      have hb2 : Below w.heap.size w W2 := HS.out.1
      have hown2 := HS.out.2.1
      have hgr : ∃ rg, rg = W.heap.size := ⟨_, rfl⟩
      obtain ⟨rg, hrg⟩ := hgr
      rw [← hrg] at hrc ⊢
      have hrgg : g < rg := by omega
      have hrgl : rg < W2.heap.size := by rw [hrg, ← hW2]; simp
      have hrest0 : 0 = done.length - cap := HD0.out.symm
      clear hrest0 hrg hW2
      have hdl : (done.drop cap).length = done.length - cap := by simp
      have hb2W := Lib.hid hb2
      have hszW2 := hb2.size
      clear hb2
      have hjcap : cap ≤ cap := by omega
      have hjcap' : (cap : Int) ≤ (cap : Int) := by omega
      go_wp2_with fail
      go_region_law (first
       | ((refine step_append_own rfl (.tmp 53) (.tmp 58) 31 rfl w.heap.size 9 i0 (.string ByteArray.empty) 1 16 Tryz.underlying31 hi hz0 hz1 hz2 rfl (by decide) (.slice (some ⟨g, 0, none⟩) cap cap) cap ((done.map Value.string).take cap) rfl ((own_take hown2 hjm).alloc _) ⟨W2.heap.size, 0, none⟩ 1 1 [.string s] rfl rfl (cell_one_new _ _ _) (by simp [Value.oneCell']) (by unfold maxLen; omega) (by omega) (by simp <;> omega) ?_); intro v3 W3 hv3 hgrow3 hnil3)
       | ((refine step_append_own rfl (.tmp 59) (.tmp 60) 31 rfl w.heap.size 9 i0 (.string ByteArray.empty) 1 16 Tryz.underlying31 hi hz0 hz1 hz2 rfl (by decide) v3 (cap + 1) _ rfl hv3 ⟨rg, 0, none⟩ 0 _ ((done.drop cap).map Value.string) rfl (by simp <;> omega) (fun i u hu => by
          rw [add_g, Nat.zero_add, World.cell?_of_block (hgrow3.block rg (by simp; omega) (by show some rg ≠ some g; intro e; injection e with e; omega))]
          show (W2.alloc (.cells #[Value.string s] 9)).cell? ⟨rg, i, none⟩ = some u
          rw [World.cell?_alloc_lt _ _ _ hrgl]
          exact hrc i u hu) (fun u hu => by obtain ⟨s, _, rfl⟩ := List.mem_map.1 hu; rfl) (by unfold maxLen; omega) (by omega) (by have := hgrow3.size; simp at this; omega) ?_); intro v4 W4 hv4 hgrow4 hnil4))
      have hb4 : Below w.heap.size w W4 := ((hb2W.out.drew.alloc (by simpa using hszW2) _).grown hgrow3 (by simp; omega) (fun q hj => by cases hj; exact hbg)).grown hgrow4 (by have := hgrow3.size; simp at this; omega) (fun q hj => (hv3.lt q hj).1)
      have hlen4 : cap + 1 + 0 = (done.take cap ++ [s] ++ done.drop cap).length := by simp; omega
      have hv4' : W4.ownsRow w.heap.size 9 1 v4 (done.take cap ++ [s] ++ done.drop cap).length ((done.take cap ++ [s] ++ done.drop cap).map Value.string) := by
       rw [← hlen4]
       simpa [List.map_take, List.map_drop] using hv4
      have hD : Hid (done.take cap ++ [s] ++ done.drop cap = srtB (ss.take (k + 1))) := Lib.hid (srtB_put HG.out hdone.out HP.out HN.out)
      have hne4 : v4 ≠ .slice none 0 0 := fun e => by
       have h3 := (hnil4.1 e).1
       have h2 := (hnil3.1 h3).1
       cases h2
      obtain ⟨g4, cap4, rfl, q1, q2, q3, q4, _⟩ := own_form hv4' hne4
      have hl5 : (done.take cap ++ [s] ++ done.drop cap).length ≤ k + 1 := by rw [← hlen4]; omega
      clear hne4 hnil4 hnil3 hlen4 hv4 hgrow4 hgrow3 hv3 HS hdl
      generalize (done.take cap ++ [s] ++ done.drop cap) = done4 at *
      go_wp2
      go_roundw
      case rel => exact ⟨k + 1, g4, cap4, done4, by omega, by go_num, rfl, hD, by omega, q2, q3, q4, q1, hv4', hb4⟩
      case measure => simp [intOf]; omega
     ·go_wp2_with (at_builtin; go_loud (refine wpList_append_own _ rfl (.tmp 46) (.tmp 49) 31 rfl W.heap.size 9 i0 (.string ByteArray.empty) 1 16 Tryz.underlying31 hi hz0 hz1 hz2 rfl (by decide) _ _ _ rfl hown0 ⟨g, j, none⟩ (done.length - j) (cap - j) ((done.drop j).map Value.string) rfl (by simp) (fun i u hu => by rw [add_g]; exact hnews i u hu) (fun u hu => by obtain ⟨s, _, rfl⟩ := List.mem_map.1 hu; rfl) (by unfold maxLen; omega) (by omega) (by simp) ?_); intro v1 W2 hv1 hgrow2 hnil)
      have hb1 : Below w.heap.size w (W.alloc (.cells #[] 9)) := hbW.alloc hszW _
      have hb2 : Below w.heap.size w W2 := hb1.grown hgrow2 (by simp; omega) (fun j hj => Nat.le_trans hszW (hown0.lt j hj).1)
      have hne : v1 ≠ .slice none 0 0 := fun e => by have := (hnil.1 e).1; cases this
      obtain ⟨rg, rc, rfl, hrg, hrgl, _, _, hrc⟩ := own_form hv1 hne
      have hown2 := (hownW.alloc (.cells #[] 9)).kept hgrow2 (Or.inr (by show some g ≠ some W.heap.size; intro e; injection e with e; omega))
      have hc2 : W2.cell? ⟨b, o + k, none⟩ = some (.string s) := by
       rw [World.cell?_of_block (w := W.alloc (.cells #[] 9)) (hgrow2.block b (by simp; omega) (by show some b ≠ some W.heap.size; intro e; injection e with e; omega)), World.cell?_alloc_lt W _ _ hblW]
       exact hcW
      simp only [List.nil_append] at hrc
      have hrgg : g < rg := by omega
      have hrest0 : 0 + (done.length - j) = done.length - j := by omega
      have HS := Lib.hid (And.intro hb2 (And.intro hown2 hc2))
      clear hnil hne hgrow2 hv1 hb1 hown0 hnews
      go_wp2_with fail
      rw [hrest0]
      clear hrest0
      have hdl : (done.drop j).length = done.length - j := by simp
      have hb2W := Lib.hid hb2
      have hszW2 := hb2.size
      clear hb2
      have hjcap : j ≤ cap := by omega
      have hjcap' : (j : Int) ≤ (cap : Int) := by omega
      go_wp2_with fail
      go_region_law (first
       | ((refine step_append_own rfl (.tmp 53) (.tmp 58) 31 rfl w.heap.size 9 i0 (.string ByteArray.empty) 1 16 Tryz.underlying31 hi hz0 hz1 hz2 rfl (by decide) (.slice (some ⟨g, 0, none⟩) j cap) j ((done.map Value.string).take j) rfl ((own_take hown2 hjm).alloc _) ⟨W2.heap.size, 0, none⟩ 1 1 [.string s] rfl rfl (cell_one_new _ _ _) (by simp [Value.oneCell']) (by unfold maxLen; omega) (by omega) (by simp <;> omega) ?_); intro v3 W3 hv3 hgrow3 hnil3)
       | ((refine step_append_own rfl (.tmp 59) (.tmp 60) 31 rfl w.heap.size 9 i0 (.string ByteArray.empty) 1 16 Tryz.underlying31 hi hz0 hz1 hz2 rfl (by decide) v3 (j + 1) _ rfl hv3 ⟨rg, 0, none⟩ (done.length - j) _ ((done.drop j).map Value.string) rfl (by simp <;> omega) (fun i u hu => by
          rw [add_g, Nat.zero_add, World.cell?_of_block (hgrow3.block rg (by simp; omega) (by show some rg ≠ some g; intro e; injection e with e; omega))]
          show (W2.alloc (.cells #[Value.string s] 9)).cell? ⟨rg, i, none⟩ = some u
          rw [World.cell?_alloc_lt _ _ _ hrgl]
          exact hrc i u hu) (fun u hu => by obtain ⟨s, _, rfl⟩ := List.mem_map.1 hu; rfl) (by unfold maxLen; omega) (by omega) (by have := hgrow3.size; simp at this; omega) ?_); intro v4 W4 hv4 hgrow4 hnil4))
      have hb4 : Below w.heap.size w W4 := ((hb2W.out.drew.alloc (by simpa using hszW2) _).grown hgrow3 (by simp; omega) (fun q hj => by cases hj; exact hbg)).grown hgrow4 (by have := hgrow3.size; simp at this; omega) (fun q hj => (hv3.lt q hj).1)
      have hlen4 : j + 1 + (done.length - j) = (done.take j ++ [s] ++ done.drop j).length := by simp; omega
      have hv4' : W4.ownsRow w.heap.size 9 1 v4 (done.take j ++ [s] ++ done.drop j).length ((done.take j ++ [s] ++ done.drop j).map Value.string) := by
       rw [← hlen4]
       simpa [List.map_take, List.map_drop] using hv4
      have hD : Hid (done.take j ++ [s] ++ done.drop j = srtB (ss.take (k + 1))) := Lib.hid (srtB_put HG.out hdone.out HP.out HN.out)
      have hne4 : v4 ≠ .slice none 0 0 := fun e => by
       have h3 := (hnil4.1 e).1
       have h2 := (hnil3.1 h3).1
       cases h2
      obtain ⟨g4, cap4, rfl, q1, q2, q3, q4, _⟩ := own_form hv4' hne4
      have hl5 : (done.take j ++ [s] ++ done.drop j).length ≤ k + 1 := by rw [← hlen4]; omega
      clear hne4 hnil4 hnil3 hlen4 hv4 hgrow4 hgrow3 hv3 HS hdl
      generalize (done.take j ++ [s] ++ done.drop j) = done4 at *
      go_wp2
      go_roundw
      case rel => exact ⟨k + 1, g4, cap4, done4, by omega, by go_num, rfl, hD, by omega, q2, q3, q4, q1, hv4', hb4⟩
      case measure => simp [intOf]; omega
  ·have hk' : k = ss.length := by omega
   have hfin : done = srtB ss := by rw [hdone.out, hk', List.take_length]
   go_wp2
   go_ret
   subst hfin
   obtain ⟨A', cap', e, h1, h2, h3, h4⟩ := StrK.of_own hown
   injection e with e1 e2 e3
   subst e1; subst e3
   exact ⟨_, _, rfl, h1, h2, hb, h3, h4⟩
end NameS
end Go.Proofs.YtbbllkhmenpnlaaGreat

/-
  The model's AllDistinct.
-/
namespace Go.Proofs.YtbbllkhmenpnlaaGreat
open Go.RowKit
namespace NameS
open SortM

theorem SRow_take {w : World} {A : Option Addr} {ss : List ByteArray} (h : StrK.SRow w A ss) (k : Nat) : StrK.SRow w A (ss.take k) := fun hn => by
 obtain ⟨b, o, rfl, hb, hc⟩ := h (fun e => hn (by rw [e]; simp))
 refine ⟨b, o, rfl, hb, fun j s hj => hc j s ?_⟩
 rw [List.getElem?_take] at hj
 split at hj
 ·exact hj
 ·cases hj

theorem has_take (A : Option Addr) (c k : Nat) (ss : List ByteArray) (s : ByteArray) (w : World) (hA : StrK.SRow w A ss) (hk : k ≤ ss.length) (hl : ss.length ≤ 1000000000000) :
  Calls Tryz.prog 53 #[.slice A k c, .string s] w fun e w' => e = .returned (.bool (NameM.hasB (ss.take k) s)) ∧ w = w' := by
 have e : (ss.take k).length = k := by rw [List.length_take]; omega
 have h := has A c (ss.take k) s w (SRow_take hA k) (by omega)
 rwa [e] at h

theorem data_get {ss : List ByteArray} {k : Nat} {s : ByteArray} (h : ss[k]? = some s) : (ss.map fun s => s.data.toList)[k]? = some s.data.toList := by
 rw [List.getElem?_map, h]; rfl
theorem has_data {ss : List ByteArray} {k : Nat} {s : ByteArray} : NameM.hasB (ss.take k) s = true ↔ s.data.toList ∈ (ss.map fun s => s.data.toList).take k := by
 unfold NameM.hasB
 rw [decide_eq_true_eq, List.map_take]
theorem dist_true {ss : List ByteArray} (h : (srt ((ss.map fun s => s.data.toList).take ss.length)).length = ss.length) : dist ss = true := by
 have e : ss.length = (ss.map fun s => s.data.toList).length := by simp
 rw [e, List.take_length, ← srtB_data, List.length_map, ← e] at h
 unfold dist
 rw [decide_eq_true_eq]; exact h
theorem dist_false {ss : List ByteArray} {k : Nat} {s : ByteArray} (hk : ss[k]? = some s) (h : NameM.hasB (ss.take k) s = true) : dist ss = false := by
 have := dist_no (data_get hk) (has_data.1 h)
 rw [← srtB_data, List.length_map, List.length_map] at this
 unfold dist
 exact decide_eq_false (by omega)

set_option maxHeartbeats 1000000 in
set_option maxRecDepth 100000 in
theorem specDistinct (A : Option Addr) (c : Nat) (ss : List ByteArray) (w : World) (hA : StrK.SRow w A ss) (hl : ss.length ≤ 1000000000000) (hcap : ss.length ≤ c) :
  Calls Tryz.prog 20 #[.slice A ss.length c] w fun e w' => e = .returned (.bool (dist ss)) ∧ Below w.heap.size w w' := by
 go_enter Tryz.func20, Tryz.ntmps20
 go_wp2
 go_loopw [3] (fun i wr => ∃ k : Nat, k ≤ ss.length ∧ i = .int .i64 k ∧ Hid ((srt ((ss.map fun s => s.data.toList).take k)).length = k) ∧ Below w.heap.size w wr) (fun i _ => ss.length - (intOf i).toNat)
 case atStart => exact ⟨0, Nat.zero_le _, rfl, Lib.hid rfl, Below.refl _ _⟩
 case round =>
  obtain ⟨k, hk, rfl, hd, hb⟩ := hrel
  have hA1 := hA.below hb
  by_cases hlt : k < ss.length
  ·have HH := Lib.hid (fun s n => has_take A c k ss s (wr.drewN n) (hA.below (below_drewN hb n)) hk hl)
   obtain ⟨b, o, rfl, hbl, hc⟩ := hA1.at_ hlt
   have hg := List.getElem?_eq_getElem hlt
   generalize ss[k] = s at hc hg
   have HG := Lib.hid hg
   clear hg hA hA1
   have hi0 : (0 : Int) ≤ (k : Int) := by omega
   have hi1 : (k : Int) < (ss.length : Int) := by omega
   have hkc : k ≤ c := by omega
   have hkc2 : (k : Int) ≤ (c : Int) := by omega
   cases hx : NameM.hasB (ss.take k) s with
   | true =>
    have HC := HH.out s
    simp only [hx] at HC
    have HC' := Lib.hid HC
    have HD := Lib.hid (dist_false HG.out hx)
    clear HC hx HH
    go_wp2
    go_quiet ((go_at_call 53; exact Calls.quiet_of_same (Calls.mono (HC'.out _) (fun e w' h => ⟨h.1, h.2.symm⟩))))
    go_wp2
    go_ret
    exact ⟨ret_bool HD.out.symm, below_drewN hb _⟩
   | false =>
    have HC := HH.out s
    simp only [hx] at HC
    have HC' := Lib.hid HC
    have HD := Lib.hid (dist_step (data_get HG.out) hd.out (fun h => by rw [has_data.2 h] at hx; cases hx))
    clear HC hx HH
    go_wp2
    go_quiet ((go_at_call 53; exact Calls.quiet_of_same (Calls.mono (HC'.out _) (fun e w' h => ⟨h.1, h.2.symm⟩))))
    go_wp2
    go_roundw
    case rel => exact ⟨k + 1, by omega, by go_num, HD, below_drewN hb _⟩
    case measure => simp [intOf]; omega
  ·have hk' : k = ss.length := by omega
   subst hk'
   have HD := Lib.hid (dist_true hd.out)
   go_wp2
   go_ret
   exact ⟨ret_bool HD.out.symm, hb⟩
end NameS
end Go.Proofs.YtbbllkhmenpnlaaGreat
