import Derived.Test.YtbbllkhmenpnlaaGreatEdgeS
import Derived.Test.YtbbllkhmenpnlaaGreatPgmScope3
import Derived.Test.YtbbllkhmenpnlaaGreatEdgeI2
import Derived.Lib.SliceRun
import Derived.Deep.AppendLies
import Derived.Handy
import Derived.Shelf.Abstract
import Derived.Test.YtbbllkhmenpnlaaGreatReachI2
/-
  slices.IndexFunc and slices.DeleteFunc at strings, with any closure (made by tools/s13d.py).
-/
namespace Go.Proofs.YtbbllkhmenpnlaaGreat
open Go.RowKit
namespace DelS
open RowK Mem GraphM
section
variable {α : Type} {p : α → Bool} {L : List α}
def idxP (p : α → Bool) (L : List α) : Int := if L.findIdx p < L.length then (L.findIdx p : Int) else -1
theorem idx_hit {k : Nat} (hk : k < L.length) (h : ∀ r ∈ L.take k, p r = false) (h2 : p L[k] = true) : idxP p L = (k : Int) := by
 have e : L.findIdx p = k := by
  rw [List.findIdx_eq hk]
  exact ⟨h2, fun j hj => h _ (by rw [List.mem_take_iff_getElem]; exact ⟨j, by omega, rfl⟩)⟩
 unfold idxP
 rw [e, if_pos hk]
theorem idx_none (h : ∀ r ∈ L, p r = false) : idxP p L = -1 := by
 unfold idxP
 rw [List.findIdx_eq_length.2 h, if_neg (Nat.lt_irrefl _)]
theorem take_next {k : Nat} (hk : k < L.length) (h : ∀ r ∈ L.take k, p r = false) (h2 : p L[k] = false) : ∀ r ∈ L.take (k + 1), p r = false := fun r hr => by
 rw [List.take_add_one, List.getElem?_eq_getElem hk] at hr
 rcases List.mem_append.1 hr with hr | hr
 ·exact h r hr
 ·have : r = L[k] := by simpa using hr
  rw [this]; exact h2
theorem filter_next {j : Nat} (hj : j < L.length) : (L.take (j + 1)).filter (fun r => !p r) = (L.take j).filter (fun r => !p r) ++ (if p L[j] = true then [] else [L[j]]) := by
 rw [take_snoc hj, List.filter_append]
 cases h : p L[j] <;> simp [h]
end
theorem own_setCells {base n cap g size : Nat} {e : TypeId} : ∀ (us : List Value) (o : Nat) {w : World} {xs : List Value}, w.ownsRow base e size (.slice (some ⟨g, 0, none⟩) n cap) n xs →
  ∃ ys : List Value, (w.setCells g o us).ownsRow base e size (.slice (some ⟨g, 0, none⟩) n cap) n ys ∧ ys.take o = xs.take o
 | [], _, _, xs, h => ⟨xs, h, rfl⟩
 | u :: us, o, w, xs, h => by
  obtain ⟨ys, h1, h2⟩ := own_setCells us (o + 1) (h.stored o u).1
  refine ⟨ys, h1, ?_⟩
  have h3 : ys.take o = (ys.take (o + 1)).take o := by rw [List.take_take, Nat.min_eq_left (Nat.le_succ _)]
  rw [h3, h2, List.take_take, Nat.min_eq_left (Nat.le_succ _), List.take_set_of_le (Nat.le_refl _)]
theorem own_cut {base n cap g m : Nat} {e : TypeId} {w : World} {xs : List Value} (h : w.ownsRow base e 1 (.slice (some ⟨g, 0, none⟩) n cap) n xs) (hm : m ≤ n) : w.ownsRow base e 1 (.slice (some ⟨g, 0, none⟩) m cap) m (xs.take m) := by
 rcases h.2 with ⟨h', _⟩ | ⟨g', cap', cur, h', hb, hg, hnc, hcm, hcs, htake⟩
 ·cases h'
 ·injection h' with e1 e2 e3
  injection e1 with e1
  injection e1 with e1
  subst e1
  subst e3
  refine ⟨by rw [List.length_take, h.1]; omega, Or.inr ⟨g, cap, cur, rfl, hb, hg, by omega, hcm, hcs, ?_⟩⟩
  rw [← htake, List.take_take, Nat.min_eq_left (by omega), Nat.mul_one]
theorem setCells_below {m g : Nat} (hg : m ≤ g) {w0 : World} : ∀ (us : List Value) (o : Nat) (w : World), Below m w0 w → Below m w0 (w.setCells g o us)
 | [], _, _, h => h
 | u :: us, o, _, h => setCells_below hg us (o + 1) _ (h.setCell hg u)
set_option maxHeartbeats 4000000 in
set_option maxRecDepth 100000 in
theorem indexFunc (F : Nat) (lb : Array Value) (eg : ∀ args W, (callFunc F args).run Tryz.prog W = .ok (.enter F args) W) (p : ByteArray → Bool) (A : Option Addr) (c : Nat) (L : List ByteArray) (w : World) (hA : StrK.SRow w A L) (hl : L.length ≤ 9000000)
  (hp : ∀ x ∈ L, ∀ W, Below w.heap.size w W → Calls Tryz.prog F (#[.string x] ++ lb) W fun e w' => e = .returned (.bool (p x)) ∧ Below W.heap.size W w') :
  Calls Tryz.prog 135 #[.slice A L.length c, .func (.func F) #[] lb] w fun e w' => e = .returned (.int .i64 (idxP p L)) ∧ Below w.heap.size w w' := by
 have HA := Lib.hid hA
 have HP := Lib.hid hp
 clear hA hp
 go_enter Tryz.func135, Tryz.ntmps135
 go_wp2
 go_loopw [5, 8] (fun _ s wr => ∃ k : Nat, k ≤ L.length ∧ s = .int .i64 k ∧ Hid (∀ r ∈ L.take k, p r = false) ∧ Below w.heap.size w wr) (fun _ s _ => L.length - (intOf s).toNat)
 case atStart => exact ⟨0, Nat.zero_le _, rfl, Lib.hid (fun r h => by simp at h), Below.refl _ _⟩
 case round =>
  obtain ⟨k, hk, rfl, hpre, hb⟩ := hrel
  have HPRE := Lib.hid hpre.out
  have HB := Lib.hid hb
  clear hpre hb
  by_cases hlt : k < L.length
  ·obtain ⟨b, o, rfl, hbl, hc⟩ := (HA.out.below HB.out).at_ hlt
   have HY := Lib.hid (fun h => idx_hit hlt HPRE.out h)
   have HN := Lib.hid (fun h => take_next hlt HPRE.out h)
   have HC := Lib.hid (HP.out L[k] (List.getElem_mem hlt) wr HB.out)
   have hi0 : (0 : Int) ≤ (k : Int) := by omega
   have hi1 : (k : Int) < (L.length : Int) := by omega
   generalize L[k] = x at *
   generalize p x = t at *
   cases t with
   | true =>
    have HR := Lib.hid (HY.out rfl)
    clear HY HN
    go_wp2_with (go_at_fn F; refine (Calls.mono HC.out) ?_; rintro e w1 ⟨rfl, b1⟩)
    have B1 := Lib.hid (below_step HB.out b1)
    go_ret
    exact ⟨by rw [HR.out]; rfl, B1.out⟩
   | false =>
    have HT := Lib.hid (HN.out rfl)
    clear HY HN
    go_wp2_with (go_at_fn F; refine (Calls.mono HC.out) ?_; rintro e w1 ⟨rfl, b1⟩)
    have B1 := Lib.hid (below_step HB.out b1)
    go_roundw
    case rel => exact ⟨k + 1, by omega, by go_num, HT, B1.out⟩
    case measure => simp [intOf]; omega
  ·obtain rfl : k = L.length := by omega
   have hlz : decide ((L.length : Int) < (L.length : Int)) = false := by simp
   have HR := Lib.hid (idx_none (p := p) (L := L) (by have := HPRE.out; rwa [List.take_length] at this))
   go_wp2
   go_ret
   exact ⟨by rw [HR.out]; rfl, HB.out⟩
def DelRel (wB : World) (p : ByteArray → Bool) (L : List ByteArray) (g cap : Nat) (s5 s6 : Value) (wr : World) : Prop :=
 ∃ (i j : Nat) (cur : List ByteArray), s5 = .int .i64 i ∧ s6 = .int .i64 j ∧ i < j ∧ j ≤ L.length ∧ cur.length = L.length ∧ cur.take i = (L.take j).filter (fun r => !p r) ∧ cur.drop j = L.drop j ∧
  wr.ownsRow wB.heap.size 9 1 (.slice (some ⟨g, 0, none⟩) L.length cap) L.length (cur.map Value.string) ∧ Below wB.heap.size wB wr
set_option maxHeartbeats 4000000 in
set_option maxRecDepth 100000 in
theorem deleteFunc (F : Nat) (lb : Array Value) (eg : ∀ args W, (callFunc F args).run Tryz.prog W = .ok (.enter F args) W) (p : ByteArray → Bool) (wB : World) (v : Value) (L : List ByteArray) (w : World) (hB0 : Below wB.heap.size wB w)
  (hO : w.ownsRow wB.heap.size 9 1 v L.length (L.map Value.string)) (hl : L.length ≤ 9000000)
  (hp : ∀ x ∈ L, ∀ W, Below wB.heap.size wB W → Calls Tryz.prog F (#[.string x] ++ lb) W fun e w' => e = .returned (.bool (p x)) ∧ Below W.heap.size W w') :
  Calls Tryz.prog 91 #[v, .func (.func F) #[] lb] w (ProgI.GaveS wB (L.filter fun r => !p r)) := by
 obtain ⟨A, c, ev, hr, _⟩ := StrK.of_own hO
 subst ev
 have IX := indexFunc F lb eg p A c L w hr hl (fun x hx W h => hp x hx W (below_step hB0 h))
 by_cases hall : ∀ r ∈ L, p r = false
 ·rw [idx_none hall] at IX
  have hf : (L.filter fun r => !p r) = L := List.filter_eq_self.2 fun r hr => by rw [hall r hr]; rfl
  rw [hf]
  have HO := Lib.hid hO
  have HX := Lib.hid IX
  have HB0 := Lib.hid hB0
  clear hO IX hp hall hf hB0 hr
  go_enter Tryz.func91, Tryz.ntmps91
  go_wp2_with fail
  refine (Calls.mono HX.out) ?_
  rintro e w1 ⟨rfl, b1⟩
  have FIN := Lib.hid (ProgI.gave_own (own_below HO.out b1) (below_step HB0.out b1))
  clear b1
  go_wp2
  go_ret
  exact FIN.out
 ·have hk0 : L.findIdx p < L.length := List.findIdx_lt_length_of_exists (by
   rcases Classical.not_forall.1 hall with ⟨r, hr⟩
   rcases Classical.not_imp.1 hr with ⟨h1, h2⟩
   exact ⟨r, h1, by simpa using h2⟩)
  have ht0 : p L[L.findIdx p] = true := List.findIdx_getElem
  have hpre0 : ∀ r ∈ L.take (L.findIdx p), p r = false := fun r hr => by
   rw [List.mem_take_iff_getElem] at hr
   obtain ⟨j, hj, rfl⟩ := hr
   have := List.not_of_lt_findIdx (p := p) (xs := L) (i := j) (by omega)
   simpa using this
  rw [idx_hit hk0 hpre0 ht0] at IX
  generalize L.findIdx p = k0 at *
  have hn0 : 0 < L.length := by omega
  obtain ⟨g, cap, e1, hg1, hg2⟩ := hO.form hn0
  injection e1 with e1 _ e3
  subst e1
  subst e3
  have hO : w.ownsRow wB.heap.size 9 1 (.slice (some ⟨g, 0, none⟩) L.length c) L.length (L.map Value.string) := hO
  have hcap : L.length ≤ c := by
   obtain ⟨A', c', e, _, _, _, hc⟩ := StrK.of_own hO
   injection e with _ _ e
   omega
  have hst : L.take k0 = (L.take (k0 + 1)).filter (fun r => !p r) := by
   rw [filter_next hk0, ht0, if_pos rfl, List.append_nil]
   exact (List.filter_eq_self.2 fun r hr => by rw [hpre0 r hr]; rfl).symm
  have HC0 := Lib.hid hp
  have HST := Lib.hid hst
  have HOW := Lib.hid hO
  have HX := Lib.hid IX
  have HG := Lib.hid hg1
  have HB0 := Lib.hid hB0
  have hne1 : ((k0 : Int) == -1) = false := beq_eq_false_iff_ne.2 (by omega)
  have hzv : ∀ w, (zeroValue 9).run Tryz.prog w = .ok (.string ⟨#[]⟩) w := fun w => by kernel_rfl
  have HZV := Lib.hid hzv
  clear IX hp hall hst hO hpre0 ht0 hn0 hg1 hB0 hr hzv
  go_enter Tryz.func91, Tryz.ntmps91
  go_wp2_with fail
  refine (Calls.mono HX.out) ?_
  rintro e w1 ⟨rfl, b1⟩
  have START := Lib.hid (show DelRel wB p L g c (.int .i64 (k0 : Int)) (.int .i64 ((k0 : Int) + 1)) w1 from ⟨k0, k0 + 1, L, rfl, by go_num, by omega, by omega, rfl, HST.out, rfl, own_below HOW.out b1, below_step HB0.out b1⟩)
  clear b1 HX
  go_wp2
  go_loopw [5, 6, 7] (fun s5 s6 _ wr => DelRel wB p L g c s5 s6 wr) (fun _ s6 _ _ => L.length - (intOf s6).toNat)
  case atStart => exact START.out
  case round =>
   obtain ⟨i, j, cur, rfl, rfl, hij, hj, hcl, hkept, hdrop, hown, hm⟩ := hrel
   have KM := Lib.hid hm
   have KO := Lib.hid hown
   have KK := Lib.hid hkept
   have KD := Lib.hid hdrop
   have KC := Lib.hid hcl
   clear hm hown hkept hdrop START
   by_cases hlt : j < L.length
   ·have hcur : cur[j]? = some L[j] := by
     have h := congrArg (fun l : List ByteArray => l[0]?) KD.out
     simp only [List.getElem?_drop, Nat.add_zero] at h
     rw [h, List.getElem?_eq_getElem hlt]
    have c0 : wr.cell? ⟨g, j, none⟩ = some (.string L[j]) := by rw [KO.out.cellAt j (by omega), List.getElem?_map, hcur]; rfl
    have hci : i < cur.length := by omega
    have hic : ∃ u, wr.cell? ⟨g, i, none⟩ = some u := ⟨_, by rw [KO.out.cellAt i (by omega), List.getElem?_map, List.getElem?_eq_getElem hci]; rfl⟩
    obtain ⟨u0, d0⟩ := hic
    have hglt : g < wr.heap.size := World.block_lt_of_cell? _ _ c0
    have HC := Lib.hid (HC0.out L[j] (List.getElem_mem hlt) wr KM.out)
    have HFN := Lib.hid (filter_next (p := p) hlt)
    have hi0 : (0 : Int) ≤ (j : Int) := by omega
    have hi1 : (j : Int) < (L.length : Int) := by omega
    have hi2 : (0 : Int) ≤ (i : Int) := by omega
    have hi3 : (i : Int) < (L.length : Int) := by omega
    have D0 := Lib.hid d0
    have hwj : IntKind.i64.wrap ((j : Int) + 1) = (j : Int) + 1 := IntWalk.i64_in _ (by omega)
    have hwi : IntKind.i64.wrap ((i : Int) + 1) = (i : Int) + 1 := IntWalk.i64_in _ (by omega)
    generalize L[j] = x at *
    clear hcur d0
    cases hpr : p x with
    | true =>
     rw [hpr] at HC
     have HF := Lib.hid (show cur.take i = (L.take (j + 1)).filter (fun r => !p r) by rw [HFN.out, hpr, KK.out]; simp)
     have HDR := Lib.hid (show cur.drop (j + 1) = L.drop (j + 1) by rw [← List.drop_drop, KD.out, List.drop_drop])
     clear hpr
     go_wp2_with (go_at_fn F; refine (Calls.mono HC.out) ?_; rintro e w4 ⟨rfl, b4⟩)
     have hn := Lib.hid (show DelRel wB p L g c (.int .i64 (i : Int)) (.int .i64 ((j : Int) + 1)) w4 from ⟨i, j + 1, cur, rfl, by go_num, by omega, by omega, KC.out, HF.out, HDR.out, own_below KO.out b4, below_step KM.out b4⟩)
     clear b4
     go_roundw
     case rel => exact hn.out
     case measure => simp [intOf]; omega
    | false =>
     rw [hpr] at HC
     have HF := Lib.hid (show (cur.set i x).take (i + 1) = (L.take (j + 1)).filter (fun r => !p r) by rw [HFN.out, hpr, ← KK.out, List.take_add_one, List.getElem?_set_self hci, List.take_set_of_le (Nat.le_refl _)]; simp)
     have HDR := Lib.hid (show (cur.set i x).drop (j + 1) = L.drop (j + 1) by rw [List.drop_set_of_lt (by omega), ← List.drop_drop, KD.out, List.drop_drop])
     clear hpr
     go_wp2_with (go_at_fn F; refine (Calls.mono HC.out) ?_; rintro e w4 ⟨rfl, b4⟩; (have hw4 := own_below KO.out b4); (have y0 := (b4.cell (p := ⟨g, i, none⟩) hglt).trans D0.out); (have f0 := hw4.frozenAt i))
     have hst := (hw4.stored i (.string x)).1
     rw [← List.map_set] at hst
     have hn := Lib.hid (show DelRel wB p L g c (.int .i64 ((i : Int) + 1)) (.int .i64 ((j : Int) + 1)) (w4.setCell ⟨g, i, none⟩ (.string x)) from ⟨i + 1, j + 1, cur.set i x, by go_num, by go_num, by omega, by omega, by rw [List.length_set]; exact KC.out, HF.out, HDR.out, hst, (below_step KM.out b4).setCell HG.out _⟩)
     clear b4 hw4 y0 f0 hst
     go_roundw
     case rel => exact hn.out
     case measure => simp [intOf]; omega
   ·obtain rfl : j = L.length := by omega
    have hlz : decide ((L.length : Int) < (L.length : Int)) = false := by simp
    have hcel : ∀ t, t < L.length - i → (wr.cell? ⟨g, i + t, none⟩).isSome = true := fun t ht => by
     rw [KO.out.cellAt (i + t) (by omega), List.getElem?_eq_getElem (by rw [List.length_map, KC.out]; omega)]
     rfl
    have hcl1 := fun ty => Lib.run_clear_slice wr 31 9 ty (.string ⟨#[]⟩) Tryz.underlying31 HZV.out rfl rfl g i (L.length - i) (c - i) (by omega) hcel (fun t _ => KO.out.frozenAt (i + t))
    have hi2 : (0 : Int) ≤ (i : Int) := by omega
    have hi3 : (i : Int) ≤ (L.length : Int) := by omega
    have hi4 : (i : Int) ≤ (c : Int) := by omega
    have hi5 : ¬ c = i := by omega
    have hi6 : i ≤ c := by omega
    have hi7 : i ≤ L.length := by omega
    obtain ⟨ys, hy1, hy2⟩ := own_setCells (List.replicate (L.length - i) (.string ⟨#[]⟩)) i KO.out
    have hy3 := own_cut (m := i) hy1 (by omega)
    rw [hy2, ← List.map_take] at hy3
    have HBF := Lib.hid (setCells_below HG.out (List.replicate (L.length - i) (.string ⟨#[]⟩)) i wr KM.out)
    have hkk : cur.take i = L.filter (fun r => !p r) := by rw [KK.out, List.take_length]
    have hlk : (L.filter fun r => !p r).length = i := by rw [← hkk, List.length_take, KC.out]; omega
    rw [hkk] at hy3
    have FIN := ProgI.gave_own (ss := L.filter fun r => !p r) (by rw [hlk]; exact hy3) HBF.out
    have FIN := Lib.hid FIN
    clear hcel hy1 hy2 hy3 hkk hlk HBF
    go_wp2
    go_ret
    exact FIN.out
end DelS
end Go.Proofs.YtbbllkhmenpnlaaGreat

/-
  componentOf of the program (made by tools/s13d.py).
-/
namespace Go.Proofs.YtbbllkhmenpnlaaGreat
open Go.RowKit
namespace GraphI
open RowK Mem GraphM ProgM MapK
theorem idxAt {W : World} {R : Option Addr} {cr : Nat} {ss : List ByteArray} (h : ArgS Rep.str W R ss.length cr ss) (nm : ByteArray) (hl : ss.length ≤ 9000000) :
  Calls Tryz.prog 57 #[.slice R ss.length cr, .string nm] W fun e w' => e = .returned (.int .i64 (Lib.idxOfS ss nm)) ∧ W = w' := by
 obtain ⟨q, fp, h9⟩ := h
 exact NameS.implIndex R cr ss nm W (strs_open h9).1 (by omega)
set_option maxHeartbeats 4000000 in
set_option maxRecDepth 100000 in
theorem compIn (bp bn : Nat) (A B : Option Addr) (c d : Nat) (fs : List FunctionT) (rs : List RuleT) (nm x : ByteArray) (w : World) (VP : Lvar w bp #[.slice A fs.length c, .slice B rs.length d]) (VN : Lvar w bn #[.string nm])
  (hA : ArgS Mem.fn w A fs.length c fs) (hB : ArgS rule w B rs.length d rs) (hl : szProgramU (fs, rs) ≤ 9000000) (hv : progV fs rs = true) (hx : x.size ≤ maxLen) :
  Calls Tryz.prog 92 #[.string x, .pointer (some ⟨bp, 0, none⟩), .pointer (some ⟨bn, 0, none⟩)] w fun e w' => e = .returned (.bool (decide (Lib.idxOfS (rchL (names fs) (arrows rs) x) nm < 0))) ∧ Below w.heap.size w w' := by
 have KS := Lib.hid (fun (W : World) (h : Below w.heap.size w W) => (⟨(VP.below h).cell 0 _ rfl, (VP.below h).cell 1 _ rfl, (VN.below h).cell 0 _ rfl⟩ : W.cell? ⟨bp, 0, none⟩ = some (Value.slice A fs.length c) ∧ W.cell? ⟨bp, 1, none⟩ = some (Value.slice B rs.length d) ∧ W.cell? ⟨bn, 0, none⟩ = some (Value.string nm)))
 have RE := Lib.hid (fun (W : World) (h : Below w.heap.size w W) => reachable A B c d fs rs x W (hA.below h) (hB.below h) hl hv hx)
 have hns : (rchL (names fs) (arrows rs) x).length ≤ 9000000 := by
  have h1 := rchL_len (ns := names fs) (G := arrows rs) (a := x)
  have h2 := valid_len hv
  unfold names at h1
  rw [List.length_map] at h1
  unfold names
  omega
 have D0 := Lib.hid (Below.refl w.heap.size w).drew
 have D0r := Lib.hid (Below.refl w.heap.size w)
 clear VP VN hA hB hl hv
 generalize rchL (names fs) (arrows rs) x = T at *
 go_enter Tryz.func92, Tryz.ntmps92
 go_wp2_with fail
 refine wp_region_held_drew (S := (fun W => W.cell? ⟨bp, 0, none⟩ = some (Value.slice A fs.length c) ∧ W.cell? ⟨bp, 1, none⟩ = some (Value.slice B rs.length d) ∧ W.cell? ⟨bn, 0, none⟩ = some (Value.string nm))) (by kernel_rfl) ?_ (fun hHeld => ?_)
 ·(try dsimp only); first | exact KS.out _ D0.out | exact KS.out _ D0r.out
 refine wpAnyH_take (i := 0) (oi := { dst := some 5, op := Op.load 27 (Operand.tmp 1), type := 27, pos := "l13_graph.go:105", after := #[], guard := none }) (v := ?v7_0) rfl (by kernel_rfl) (by kernel_rfl) (by kernel_rfl) (fun _ _ _ h => h) (Or.inl ⟨by rfl, ?hy7_0⟩) (by assumption) ?r7_0
 case hy7_0 => (intro w hSw; (try dsimp only at hSw); go_simp; try (with_reducible rfl))
 (try simp only [Act.put, zA, zB, zC])
 refine wpAnyH_take (i := 1) (oi := { dst := some 6, op := Op.move (Operand.tmp 0), type := 9, pos := "l13_graph.go:105", after := #[], guard := none }) (v := ?v7_1) rfl (by kernel_rfl) (by kernel_rfl) (by kernel_rfl) (fun _ _ _ h => h) (Or.inl ⟨by rfl, ?hy7_1⟩) (by assumption) ?r7_1
 case hy7_1 => (intro w hSw; (try dsimp only at hSw); go_simp; try (with_reducible rfl))
 (try simp only [Act.put, zA, zB, zC])
 refine wpAnyH_take (i := 3) (oi := { dst := some 8, op := Op.load 9 (Operand.tmp 2), type := 9, pos := "l13_graph.go:105", after := #[], guard := none }) (v := ?v7_3) rfl (by kernel_rfl) (by kernel_rfl) (by kernel_rfl) (fun _ _ _ h => h) (Or.inl ⟨by rfl, ?hy7_3⟩) (by assumption) ?r7_3
 case hy7_3 => (intro w hSw; (try dsimp only at hSw); go_simp; try (with_reducible rfl))
 (try simp only [Act.put, zA, zB, zC])
 refine wpAnyH_ready (rs := [2]) (by kernel_rfl) (by simp) ?_
 refine AllReadyH.cons (o := { dst := some 7, op := Op.call { callee := Callee.value (Operand.func 52), args := #[Operand.tmp 5, Operand.tmp 6], argTypes := #[27, 9] }, type := 31, pos := "l13_graph.go:105", after := #[{ on := 0, ground := Ground.data }, { on := 1, ground := Ground.data }], guard := none }) rfl (fun K hK => ?_) AllReadyH.nil
 go_simp
 go_at_call 52; (with_reducible refine (Calls.mono (RE.out _ D0.out)) ?_); rintro e w1 ⟨R, cr, rfl, oR, b1⟩; (have D1 := Lib.hid (below_step D0.out b1)); (have IX := Lib.hid (idxAt oR.arg nm hns)); clear b1 oR
 refine hK.out _ _ ?_ (fun hHeld2 => ?_)
 ·(try dsimp only); exact KS.out _ D1.out
 clear hK K
 (try simp only [Act.put, zA, zB, zC])
 refine wpAnyH_ready (rs := [4]) (by kernel_rfl) (by simp) ?_
 refine AllReadyH.cons (o := { dst := some 9, op := Op.call { callee := Callee.value (Operand.func 57), args := #[Operand.tmp 7, Operand.tmp 8], argTypes := #[31, 9] }, type := 3, pos := "l13_graph.go:105", after := #[{ on := 2, ground := Ground.data }, { on := 3, ground := Ground.data }, { on := 2, ground := Ground.chain }], guard := none }) rfl (fun K hK => ?_) AllReadyH.nil
 go_simp
 go_at_call 57; (with_reducible refine (Calls.mono (IX.out)) ?_); rintro e w9 ⟨rfl, rfl⟩
 refine hK.out _ _ ?_ (fun hHeld2 => ?_)
 ·(try dsimp only); exact KS.out _ D1.out
 clear hK K
 (try simp only [Act.put, zA, zB, zC])
 refine wpAnyH_take (i := 5) (oi := { dst := some 10, op := Op.binOp BinOp.lss 3 (Operand.tmp 9) (Operand.const (Value.int IntKind.i64 0)) 3, type := 4, pos := "l13_graph.go:105", after := #[{ on := 4, ground := Ground.data }], guard := none }) (v := ?v7_5) rfl (by kernel_rfl) (by kernel_rfl) (by kernel_rfl) (fun _ _ _ h => h) (Or.inl ⟨by rfl, ?hy7_5⟩) (by assumption) ?r7_5
 case hy7_5 => (intro w hSw; (try dsimp only at hSw); go_simp; try (with_reducible rfl))
 (try simp only [Act.put, zA, zB, zC])
 refine wpAnyH_take (i := 6) (oi := { dst := some 4, op := Op.assign (Operand.tmp 10), type := 4, pos := "l13_graph.go:105", after := #[{ on := 5, ground := Ground.data }, { on := 4, ground := Ground.chain }, { on := 0, ground := Ground.phase }, { on := 1, ground := Ground.phase }, { on := 2, ground := Ground.phase }, { on := 3, ground := Ground.phase }, { on := 4, ground := Ground.phase }, { on := 5, ground := Ground.phase }], guard := none }) (v := ?v7_6) rfl (by kernel_rfl) (by kernel_rfl) (by kernel_rfl) (fun _ _ _ h => h) (Or.inl ⟨by rfl, ?hy7_6⟩) (by assumption) ?r7_6
 case hy7_6 => (intro w hSw; (try dsimp only at hSw); go_simp; try (with_reducible rfl))
 (try simp only [Act.put, zA, zB, zC])
 refine wpAnyH_done (by kernel_rfl) ?_ _
 go_wp2
 go_ret
 exact ⟨rfl, by first | exact D1.out | exact D1.out.drew⟩
set_option maxHeartbeats 4000000 in
set_option maxRecDepth 100000 in
theorem componentOf (A B : Option Addr) (c d : Nat) (fs : List FunctionT) (rs : List RuleT) (nm : ByteArray) (w : World) (hA : ArgS Mem.fn w A fs.length c fs) (hB : ArgS rule w B rs.length d rs) (hl : szProgramU (fs, rs) ≤ 9000000) (hv : progV fs rs = true) (hn : nm.size ≤ maxLen) :
  Calls Tryz.prog 54 #[.agg #[.slice A fs.length c, .slice B rs.length d], .string nm] w (ProgI.GaveS w (compL (names fs) (arrows rs) nm)) := by
 have eg : ∀ args W, (callFunc 92 args).run Tryz.prog W = .ok (.enter 92 args) W := enters_of Tryz.func92 (by kernel_rfl) rfl
 have b0 : Below w.heap.size w ((w.alloc (Obj.cells #[Value.slice A fs.length c, Value.slice B rs.length d] 27)).alloc (Obj.cells #[Value.string nm] 9)) := ((Below.refl _ _).alloc (Nat.le_refl _) _).alloc (by simp) _
 have V0 := (Lvar.new w #[Value.slice A fs.length c, Value.slice B rs.length d] 27).alloc (Obj.cells #[Value.string nm] 9)
 have V1 := Lvar.new (w.alloc (Obj.cells #[Value.slice A fs.length c, Value.slice B rs.length d] 27)) #[Value.string nm] 9
 simp only [World.size_alloc] at V1
 have RE := Lib.hid (reachableO A B c d fs rs nm _ (hA.below b0) (hB.below b0) hl hv hn)
 have hns : (rchL (names fs) (arrows rs) nm).length ≤ 9000000 := by
  have h1 := rchL_len (ns := names fs) (G := arrows rs) (a := nm)
  have h2 := valid_len hv
  unfold names at h1
  rw [List.length_map] at h1
  unfold names
  omega
 have hsm : ∀ x ∈ rchL (names fs) (arrows rs) nm, x.size ≤ maxLen := fun x hx => by
  have h1 := sub_small (m := 9000000) (rchL_sub (ns := names fs) (G := arrows rs) (a := nm)) (by simp only [szProgramU] at hl; omega)
  have h2 := szs_mem (sz := szStr) hx
  unfold szStr at h1 h2
  unfold maxLen
  omega
 have CI := Lib.hid (fun x (hx : x ∈ rchL (names fs) (arrows rs) nm) W (h : Below ((w.alloc (Obj.cells #[Value.slice A fs.length c, Value.slice B rs.length d] 27)).alloc (Obj.cells #[Value.string nm] 9)).heap.size ((w.alloc (Obj.cells #[Value.slice A fs.length c, Value.slice B rs.length d] 27)).alloc (Obj.cells #[Value.string nm] 9)) W) => compIn w.heap.size (w.heap.size + 1) A B c d fs rs nm x W (V0.below h) (V1.below h) (hA.below (below_step b0 h)) (hB.below (below_step b0 h)) hl hv (hsm x hx))
 have DF := Lib.hid (fun v W (h0 : Below ((w.alloc (Obj.cells #[Value.slice A fs.length c, Value.slice B rs.length d] 27)).alloc (Obj.cells #[Value.string nm] 9)).heap.size ((w.alloc (Obj.cells #[Value.slice A fs.length c, Value.slice B rs.length d] 27)).alloc (Obj.cells #[Value.string nm] 9)) W) (hO : W.ownsRow ((w.alloc (Obj.cells #[Value.slice A fs.length c, Value.slice B rs.length d] 27)).alloc (Obj.cells #[Value.string nm] 9)).heap.size 9 1 v (rchL (names fs) (arrows rs) nm).length ((rchL (names fs) (arrows rs) nm).map Value.string)) => DelS.deleteFunc 92 #[.pointer (some ⟨w.heap.size, 0, none⟩), .pointer (some ⟨w.heap.size + 1, 0, none⟩)] eg (fun x => decide (Lib.idxOfS (rchL (names fs) (arrows rs) x) nm < 0)) ((w.alloc (Obj.cells #[Value.slice A fs.length c, Value.slice B rs.length d] 27)).alloc (Obj.cells #[Value.string nm] 9)) v (rchL (names fs) (arrows rs) nm) W h0 hO hns CI.out)
 have HF := Lib.hid (show (rchL (names fs) (arrows rs) nm).filter (fun r => !decide (Lib.idxOfS (rchL (names fs) (arrows rs) r) nm < 0)) = compL (names fs) (arrows rs) nm from compL_of (fun x _ => by
  rw [Bool.not_eq_true', decide_eq_false_iff_not, Int.not_lt]
  exact Lib.idxOfS_nonneg_iff _ _))
 have B0 := Lib.hid b0
 clear hA hB b0 V0 V1 hl hv hsm CI
 go_enter Tryz.func54, Tryz.ntmps54
 go_wp2_with fail
 refine (Calls.mono RE.out) ?_
 rintro e w1 ⟨v, rfl, hO, b1⟩
 have DF1 := Lib.hid (DF.out v w1 b1 hO)
 rw [HF.out] at DF1
 clear b1 hO
 go_wp2_with fail
 refine (Calls.mono DF1.out) ?_
 rintro e w2 ⟨R, cr, rfl, oR, b2⟩
 have FIN := Lib.hid (gaveS_to (w := w) B0.out (show ProgI.GaveS _ _ _ w2 from ⟨R, cr, rfl, oR, b2⟩))
 clear oR b2
 go_wp2
 go_ret
 exact FIN.out
end GraphI
end Go.Proofs.YtbbllkhmenpnlaaGreat
