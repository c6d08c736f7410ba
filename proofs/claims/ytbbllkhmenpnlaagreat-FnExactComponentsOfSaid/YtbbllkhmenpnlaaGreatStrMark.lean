import Derived.Test.YtbbllkhmenpnlaaGreatFmtMath
import Derived.Test.YtbbllkhmenpnlaaGreatStrRow
import Derived.Lib.Hide
import Derived.Deep.RegionHeld3
/-
  The helpers that write marks into a slice of strings and ask for them.
-/
namespace Go.Proofs.YtbbllkhmenpnlaaGreat
open Go.RowKit
namespace StrK

def mt (k : Nat) : ByteArray := ⟨(109 :: FmtM.dg0 k).toArray⟩

set_option maxHeartbeats 400000 in
set_option maxRecDepth 100000 in
theorem markText (k : Nat) (h1 : 1 ≤ k) (h2 : k ≤ 1000000000000) (w : World) :
  Calls Tryz.prog 75 #[.int .i64 k] w fun e w' => e = .returned (.string (mt k)) ∧ Below w.heap.size w w' := by
 have hd : decide ((k : Int) ≤ 0) = false := by simp; omega
 go_enter Tryz.func75, Tryz.ntmps75
 go_wp2
 go_loopw [0, 3] (fun a o wr => ∃ (m : Nat) (l : List UInt8), a = .int .i64 m ∧ o = .string ⟨l.toArray⟩ ∧ m ≤ k ∧ FmtM.dg0 m ++ l = FmtM.dg0 k ∧ Below w.heap.size w wr) (fun a _ _ => (intOf a).toNat)
 case atStart => exact ⟨k, [], rfl, rfl, Nat.le_refl _, by simp, Below.refl _ _⟩
 case round =>
  obtain ⟨m, l, rfl, rfl, hmn, hdg, hb⟩ := hrel
  have hl : l.length ≤ 1000000 := by
   have h1 := congrArg List.length hdg
   have h2 := FmtM.dg0_length k
   have h3 := FmtM.nDigits_le k (by omega)
   simp only [List.length_append] at h1
   omega
  by_cases hz : m = 0
  ·subst hz
   rw [FmtM.dg0_zero, List.nil_append] at hdg
   subst hdg
   have had : ∀ (W : World), Sem.run Tryz.prog (Op.stringOp .add ⟨#[109]⟩ ⟨(FmtM.dg0 k).toArray⟩) W = .ok (.string ⟨(109 :: FmtM.dg0 k).toArray⟩) W := fun W => Kit.add1 W 109 _ hl
   go_wp2
   go_ret
   exact ⟨rfl, hb⟩
  ·have hz' : decide ((m : Int) > 0) = true := by simp; omega
   have hstep := Lib.hid (FmtM.dg0_step m hz)
   have hdg' := Lib.hid hdg
   clear hdg
   have hcv := Kit.conv1
   have had : ∀ (b : UInt8) (W : World), Sem.run Tryz.prog (Op.stringOp .add ⟨#[b]⟩ ⟨l.toArray⟩) W = .ok (.string ⟨(b :: l).toArray⟩) W := fun b W => Kit.add1 W b l hl
   go_wp2
   refine ⟨⟨m / 10, _, by go_num, rfl, by omega, ?_, hb.alloc hb.size _⟩, by simp [intOf]; omega⟩
   rw [← hdg'.out, hstep.out]
   simp

def marks (k n : Nat) : List ByteArray := (List.range n).map fun j => mt (k + j)
theorem marks_length (k n : Nat) : (marks k n).length = n := by simp [marks]
theorem marks_at {k n j : Nat} (h : j < n) : (marks k n)[j]? = some (mt (k + j)) := by
 rw [marks, List.getElem?_map, List.getElem?_range h]; rfl

set_option maxHeartbeats 400000 in
set_option maxRecDepth 100000 in
theorem mark_some (b o c k : Nat) (ss : List ByteArray) (w : World) (hlt0 : b < w.heap.size) (hc : ∀ j s, ss[j]? = some s → w.cell? ⟨b, o + j, none⟩ = some (.string s)) (hf : ∀ j, j < ss.length → w.frozen? ⟨b, o + j, none⟩ = false)
  (h1 : 1 ≤ k) (h2 : k + ss.length ≤ 1000000000000) :
  Calls Tryz.prog 36 #[.slice (some ⟨b, o, none⟩) ss.length c, .int .i64 k] w fun e w' => e = .returned (.int .i64 ((k : Int) + ss.length)) ∧ SRow w' (some ⟨b, o, none⟩) (marks k ss.length) ∧ Only w w' (some ⟨b, o, none⟩) ∧ Free w' (some ⟨b, o, none⟩) ss.length := by
 go_enter Tryz.func36, Tryz.ntmps36
 go_wp2
 go_loopw [1, 5] (fun x i wr => ∃ m : Nat, m ≤ ss.length ∧ i = .int .i64 m ∧ x = .int .i64 ((k : Int) + m) ∧ Only w wr (some ⟨b, o, none⟩) ∧
   (∀ j, j < m → wr.cell? ⟨b, o + j, none⟩ = some (.string (mt (k + j)))) ∧ (∀ j, m ≤ j → j < ss.length → ∃ s, wr.cell? ⟨b, o + j, none⟩ = some (.string s)) ∧ (∀ j, j < ss.length → wr.frozen? ⟨b, o + j, none⟩ = false)) (fun _ i _ => ss.length - (intOf i).toNat)
 case atStart => exact ⟨0, Nat.zero_le _, rfl, by simp, only_refl _ _, fun j hj => by omega, fun j _ hj => ⟨_, hc j _ (List.getElem?_eq_getElem hj)⟩, hf⟩
 case round =>
  obtain ⟨m, hm, rfl, rfl, ho, hdone, hleft, hfr⟩ := hrel
  by_cases hlt : m < ss.length
  ·have HD := Lib.hid hdone
   have HL := Lib.hid hleft
   have HF := Lib.hid hfr
   clear hdone hleft hfr hc hf
   have hk0 : (0 : Int) ≤ (k : Int) + m := by omega
   go_wp2_with fail
   refine ((by simpa using markText (k + m) (by omega) (by omega) wr : Calls Tryz.prog 75 #[.int .i64 ((k : Int) + m)] wr fun e w' => e = .returned (.string (mt (k + m))) ∧ Below wr.heap.size wr w')).mono ?_
   rintro e w1 ⟨rfl, hb1⟩
   have hbw : b < wr.heap.size := Nat.lt_of_lt_of_le hlt0 ho.size
   obtain ⟨s, hcell⟩ := HL.out m (Nat.le_refl _) hlt
   have hcell1 : w1.cell? ⟨b, o + m, none⟩ = some (.string s) := by rw [hb1.cell (by exact hbw)]; exact hcell
   have hfr1 : w1.frozen? ⟨b, o + m, none⟩ = false := by rw [hb1.frozen (by exact hbw)]; exact HF.out m hlt
   clear hcell
   go_wp2
   have ho1 : Only w (w1.setCell ⟨b, o + m, none⟩ (.string (mt (k + m)))) (some ⟨b, o, none⟩) := only_trans (only_trans ho (only_below hb1 _)) (only_set _ _ _ _)
   have hD1 : ∀ j, j < m + 1 → (w1.setCell ⟨b, o + m, none⟩ (.string (mt (k + m)))).cell? ⟨b, o + j, none⟩ = some (.string (mt (k + j))) := fun j hj => by
    by_cases e : j = m
    ·subst e; rw [World.cell?_setCell_same _ _ _ hcell1]
    ·rw [World.cell?_setCell_other _ _ _ _ (by intro h; simp only [Addr.mk.injEq] at h; omega), hb1.cell (by exact hbw)]
     exact HD.out j (by omega)
   have hL1 : ∀ j, m + 1 ≤ j → j < ss.length → ∃ s, (w1.setCell ⟨b, o + m, none⟩ (.string (mt (k + m)))).cell? ⟨b, o + j, none⟩ = some (.string s) := fun j h1 h2 => by
    rw [World.cell?_setCell_other _ _ _ _ (by intro h; simp only [Addr.mk.injEq] at h; omega), hb1.cell (by exact hbw)]
    exact HL.out j (by omega) h2
   have hF1 : ∀ j, j < ss.length → (w1.setCell ⟨b, o + m, none⟩ (.string (mt (k + m)))).frozen? ⟨b, o + j, none⟩ = false := fun j hj => by
    rw [World.frozen?_setCell, hb1.frozen (by exact hbw)]
    exact HF.out j hj
   go_roundw
   case rel => exact ⟨m + 1, by omega, by go_num, congrArg (Value.int .i64) (by omega), ho1, hD1, hL1, hF1⟩
   case measure => simp [intOf]; omega
  ·obtain rfl : m = ss.length := by omega
   go_wp2
   go_ret
   refine ⟨rfl, fun _ => ⟨b, o, rfl, Nat.lt_of_lt_of_le hlt0 ho.size, fun j s hj => ?_⟩, ho, fun _ b' o' e j hj => ?_⟩
   ·have hjl : j < ss.length := by
     have := (List.getElem?_eq_some_iff.1 hj).1
     rwa [marks_length] at this
    rw [marks_at hjl] at hj
    rw [hdone j hjl, Option.some.inj hj]
   ·injection e with e; injection e with e1 e2; subst e1; subst e2
    exact hfr j hj

theorem mark (A : Option Addr) (c k : Nat) (ss : List ByteArray) (w : World) (hA : SRow w A ss) (hf : Free w A ss.length) (h1 : 1 ≤ k) (h2 : k + ss.length ≤ 1000000000000) :
  Calls Tryz.prog 36 #[.slice A ss.length c, .int .i64 k] w fun e w' => e = .returned (.int .i64 ((k : Int) + ss.length)) ∧ SRow w' A (marks k ss.length) ∧ Only w w' A ∧ Free w' A ss.length := by
 by_cases hn : ss = []
 ·subst hn
  go_enter Tryz.func36, Tryz.ntmps36
  go_wp2
  refine wp_loop_rounds 1 ?_
  rw [rounds_succ]
  go_wp2
  go_ret
  exact ⟨by simp, fun h => absurd rfl h, only_refl _ _, fun h => by simp at h⟩
 ·obtain ⟨b, o, rfl, hlt, hc⟩ := hA hn
  have hpos : 0 < ss.length := List.length_pos_iff.2 hn
  refine (mark_some b o c k ss w hlt hc (fun j hj => hf hpos b o rfl j hj) h1 h2).mono fun e w' ⟨h1, h2, h3, h4⟩ => ⟨h1, h2, h3, h4⟩

set_option maxHeartbeats 1000000 in
set_option maxRecDepth 100000 in
theorem held (A : Option Addr) (c k n : Nat) (w : World) (hA : SRow w A (marks k n)) (h1 : 1 ≤ k) (h2 : k + n ≤ 1000000000000) :
  Calls Tryz.prog 37 #[.slice A n c, .int .i64 k] w fun e w' => e = .returned (.int .i64 ((k : Int) + n)) ∧ Below w.heap.size w w' := by
 go_enter Tryz.func37, Tryz.ntmps37
 go_wp2
 go_loopw [1, 5] (fun x i wr => ∃ m : Nat, m ≤ n ∧ i = .int .i64 m ∧ x = .int .i64 ((k : Int) + m) ∧ Below w.heap.size w wr) (fun _ i _ => n - (intOf i).toNat)
 case atStart => exact ⟨0, Nat.zero_le _, rfl, by simp, Below.refl _ _⟩
 case round =>
  obtain ⟨m, hm, rfl, rfl, hb⟩ := hrel
  by_cases hlt : m < n
  ·obtain ⟨b, o, rfl, hbl, hcell⟩ := (hA.below hb).at_ (k := m) (by rw [marks_length]; exact hlt)
   have e : (marks k n)[m]'(by rw [marks_length]; exact hlt) = mt (k + m) := Option.some.inj ((List.getElem?_eq_getElem _).symm.trans (marks_at hlt))
   rw [e] at hcell
   clear e
   have hi0 : (0 : Int) ≤ (m : Int) := by omega
   have hi1 : (m : Int) < (n : Int) := by omega
   have ct : ∀ W, Calls Tryz.prog 75 #[.int .i64 ((k : Int) + m)] W fun e w' => e = .returned (.string (mt (k + m))) ∧ Below W.heap.size W w' := fun W => by simpa using markText (k + m) (by omega) (by omega) W
   have CT := Lib.hid ct
   clear ct
   generalize mt (k + m) = tx at *
   go_wp2_with fail
   go_region_held3 (fun w' => w'.cell? ⟨b, o + m, none⟩ = some (.string tx)) (first | go_keep | (rw [hb1.cell (by simpa using hbl)]; assumption)) ((go_at_call 75; refine (Calls.mono (CT.out _)) ?_; rintro e w1 ⟨rfl, hb1⟩))
   have hb2 : Below w.heap.size w w1 := hb.drew.trans (hb1.mono hb.size)
   go_wp2
   go_roundw
   case rel => exact ⟨m + 1, by omega, by go_num, congrArg (Value.int .i64) (by omega), hb2⟩
   case measure => simp [intOf]; omega
  ·obtain rfl : m = n := by omega
   go_wp2
   go_ret
   exact ⟨rfl, hb⟩

end StrK
end Go.Proofs.YtbbllkhmenpnlaaGreat
