import Derived.Test.YtgpjgjjadhmkhaaGreatRepGen
import Derived.Deep.RegionLaw
/-
  Slices of linear expressions: size, comparison, marks.
-/
namespace Go.Proofs.YtgpjgjjadhmkhaaGreat
open Go.RowKit
namespace Mem
open RowK

theorem take_succ {α : Type} {xs : List α} {k : Nat} (h : k < xs.length) : xs.take (k + 1) = xs.take k ++ [xs[k]] := by rw [List.take_add_one, List.getElem?_eq_getElem h]; rfl
def lenSum (xs : List (Int × List Int)) : Nat := (xs.map fun x => x.2.length).sum
theorem lenSum_snoc (xs : List (Int × List Int)) (x : Int × List Int) : lenSum (xs ++ [x]) = lenSum xs + x.2.length := by simp [lenSum]
theorem lenSum_take (xs : List (Int × List Int)) (k : Nat) : lenSum (xs.take k) ≤ lenSum xs := by
  have h : lenSum xs = lenSum (xs.take k) + lenSum (xs.drop k) := by
    unfold lenSum
    rw [← List.sum_append, ← List.map_append, List.take_append_drop]
  omega

def SzRel (w : World) (xs : List (Int × List Int)) (m : Nat) (x i : Value) (wr : World) : Prop :=
  ∃ k l : Nat, k ≤ xs.length ∧ i = .int .i64 k ∧ x = .int .i64 l ∧ l + lenSum (xs.take k) + xs.length = m ∧ Below w.heap.size w wr
set_option maxHeartbeats 1000000 in
set_option maxRecDepth 100000 in
theorem sizeS (q : Bool) (fp : List Nat) (A : Option Addr) (c L : Nat) (xs : List (Int × List Int)) (w : World) (hA : lins.rep q w fp [.slice A xs.length c] xs) (hL : L ≤ 1000000000) (hl : xs.length ≤ 9223372036854775807) (hs : ∀ x ∈ xs, x.2.length ≤ 9223372036854775807) :
    Calls Tryz.prog 148 #[.slice A xs.length c, .int .i64 L] w fun e w' => e = .returned (.int .i64 (IntK.leftOf L (linsSize xs))) ∧ Below w.heap.size w w' := by
  have HS := Lib.hid hs
  by_cases h0 : xs.length ≤ L
  · have hlt0 : decide ((L : Int) - (xs.length : Int) < 0) = false := decide_eq_false (by omega)
    have hx9 : xs.length ≤ 1000000000 := by omega
    clear hs
    go_enter Tryz.func148, Tryz.ntmps148
    go_wp2
    go_loopw [1, 5] (fun x i wr => SzRel w xs L x i wr) (fun _ i _ => xs.length - (intOf i).toNat)
    case atStart => exact ⟨0, L - xs.length, Nat.zero_le _, rfl, congrArg (Value.int .i64) (by omega), by simp [lenSum]; omega, Below.refl _ _⟩
    case round =>
      obtain ⟨k, l, hk, rfl, rfl, hsum, hb⟩ := hrel
      by_cases hlt : k < xs.length
      · obtain ⟨b, o, B, d, lo, hi, rfl, hbb, c0, c1, hd, hrow⟩ := lins_at (Rep.below hA hb) hlt
        have hxs := HS.out _ (List.getElem_mem hlt)
        have hts := lenSum_snoc (xs.take k) xs[k]
        rw [← take_succ hlt] at hts
        have hle := lenSum_take xs (k + 1)
        generalize xs[k] = x at *
        obtain ⟨z, zs⟩ := x
        simp only at c0 c1 hxs hts
        have SZ := Lib.hid (LinK.size z B d l zs.length wr (by omega) hxs)
        have HT := Lib.hid hts
        have HE := Lib.hid hle
        have HM := Lib.hid hsum
        unfold IntK.leftOf at SZ
        clear hrow hts hle hsum
        by_cases hc : zs.length ≤ l
        · rw [if_pos hc] at SZ
          obtain ⟨l', rfl⟩ : ∃ l', l = zs.length + l' := ⟨l - zs.length, by omega⟩
          rw [show ((zs.length + l' : Nat) : Int) - (zs.length : Int) = (l' : Int) by omega] at SZ
          have hl0 : decide ((l' : Int) < 0) = false := decide_eq_false (by omega)
          clear hc
          go_wp2_with fail
          refine (Calls.mono SZ.out) ?_
          rintro e w1 ⟨rfl, b1⟩
          have B1 := Lib.hid (hb.trans (b1.mono hb.size))
          clear b1
          go_wp2
          go_roundw
          case rel => exact ⟨k + 1, l', by omega, by go_num, rfl, by have := HM.out; have := HT.out; omega, B1.out⟩
          case measure => simp [intOf]; omega
        · rw [if_neg hc] at SZ
          have HR := Lib.hid (show IntK.leftOf L (linsSize xs) = -1 from if_neg (by unfold linsSize; have := HM.out; have := HT.out; have := HE.out; unfold lenSum at *; omega))
          clear hc
          go_wp2_with fail
          refine (Calls.mono SZ.out) ?_
          rintro e w1 ⟨rfl, b1⟩
          have B1 := Lib.hid (hb.trans (b1.mono hb.size))
          clear b1
          go_wp2
          go_ret
          exact ⟨by rw [HR.out]; rfl, B1.out⟩
      · obtain rfl : k = xs.length := by omega
        rw [List.take_length] at hsum
        have HR := Lib.hid (show IntK.leftOf L (linsSize xs) = (l : Int) by
          unfold IntK.leftOf linsSize
          unfold lenSum at hsum
          rw [if_pos (by omega)]
          omega)
        clear hsum
        go_wp2
        go_ret
        exact ⟨by rw [HR.out]; rfl, hb⟩
  · have HR := Lib.hid (show IntK.leftOf L (linsSize xs) = -1 from if_neg (by unfold linsSize; omega))
    have hlt0 : decide ((L : Int) - (xs.length : Int) < 0) = true := decide_eq_true (by omega)
    clear hs
    go_enter Tryz.func148, Tryz.ntmps148
    go_wp2
    go_ret
    exact ⟨by rw [HR.out]; rfl, Below.refl _ _⟩

set_option maxHeartbeats 1000000 in
set_option maxRecDepth 100000 in
theorem eqS (q q2 : Bool) (fp gp : List Nat) (A B : Option Addr) (c d : Nat) (xs : List (Int × List Int)) (w : World) (hA : lins.rep q w fp [.slice A xs.length c] xs) (hB : lins.rep q2 w gp [.slice B xs.length d] xs) (hl : linsSize xs ≤ 1000000000) :
    Calls Tryz.prog 160 #[.slice A xs.length c, .slice B xs.length d] w fun e w' => e = .returned (.bool true) ∧ Below w.heap.size w w' := by
  have hxl : xs.length ≤ 1000000000 := by unfold linsSize at hl; omega
  have HSZ := Lib.hid (fun x (h : x ∈ xs) => linsSize_mem h)
  have HL := Lib.hid hl
  clear hl
  go_enter Tryz.func160, Tryz.ntmps160
  go_wp2
  go_loopw [5] (fun i wr => ∃ k : Nat, k ≤ xs.length ∧ i = .int .i64 k ∧ Below w.heap.size w wr) (fun i _ => xs.length - (intOf i).toNat)
  case atStart => exact ⟨0, Nat.zero_le _, rfl, Below.refl _ _⟩
  case round =>
    obtain ⟨k, hk, rfl, hb⟩ := hrel
    by_cases hlt : k < xs.length
    · obtain ⟨b1, o1, B1, d1, lo1, hi1, rfl, hbb1, c0, c1, _, r1⟩ := lins_at (Rep.below hA hb) hlt
      obtain ⟨b2, o2, B2, d2, lo2, hi2, rfl, hbb2, e0, e1, _, r2⟩ := lins_at (Rep.below hB hb) hlt
      have hx := HSZ.out _ (List.getElem_mem hlt)
      have hs9 : xs[k].2.length ≤ 1000000000 := by have := HL.out; omega
      clear hx
      generalize xs[k] = x at *
      obtain ⟨z, zs⟩ := x
      simp only at c0 c1 e0 e1 r1 r2 hs9
      have hd : Below wr.heap.size wr wr.drew := (Below.refl _ _).drew
      have EQ := Lib.hid (LinK.eq_same lo1 hi1 lo2 hi2 z B1 B2 d1 d2 zs wr.drew (r1.below hd) (r2.below hd) (by omega))
      have hi0 : (0 : Int) ≤ (k : Int) := by omega
      have hi1 : (k : Int) < (xs.length : Int) := by omega
      clear r1 r2 hd
      go_wp2_with fail
      go_region_law (first
        | (go_simp; go_at_call 206; refine (Calls.mono EQ.out) ?_; rintro e w1 ⟨rfl, b1⟩))
      all_goals
        have B1' := Lib.hid (hb.trans (((Below.refl wr.heap.size wr).drew.trans b1).mono hb.size))
        clear b1
        go_wp2
        go_roundw
        case rel => exact ⟨k + 1, by omega, by go_num, B1'.out⟩
        case measure => simp [intOf]; omega
    · go_wp2
      go_ret
      exact ⟨rfl, hb⟩
end Mem
end Go.Proofs.YtgpjgjjadhmkhaaGreat

/-
  Systems as data in memory: the laws' helpers.
-/
namespace Go.Proofs.YtgpjgjjadhmkhaaGreat
open Go.RowKit
namespace Mem
open RowK

def sys : Rep (Int × List (Int × List Int)) := Rep.prod Rep.int lins
theorem sys_open {q : Bool} {w : World} {fp : List Nat} {cs : List Value} {p : Int × List (Int × List Int)} (h : sys.rep q w fp cs p) : ∃ A c, cs = [.int .i64 p.1, .slice A p.2.length c] ∧ lins.rep q w fp [.slice A p.2.length c] p.2 := by
  obtain ⟨f1, f2, c1, c2, rfl, rfl, ⟨rfl, rfl⟩, h2⟩ := h
  obtain ⟨A, c, rfl, h3⟩ := h2
  exact ⟨A, c, rfl, A, c, rfl, h3⟩
theorem sys_close {q : Bool} {w : World} {fp : List Nat} {A : Option Addr} {c : Nat} {n : Int} {xs : List (Int × List Int)} (h : lins.rep q w fp [.slice A xs.length c] xs) : sys.rep q w fp [.int .i64 n, .slice A xs.length c] (n, xs) :=
  ⟨[], fp, _, _, rfl, rfl, ⟨rfl, rfl⟩, h⟩
theorem New.keep {α : Type} {r : Rep α} {w w1 w2 : World} {lo hi : Nat} {x : α} {cs : List Value} (h : New r w x w1 cs) (m : Mod lo hi w1 w2) (hd : hi ≤ w.heap.size) : New r w x w2 cs := by
  obtain ⟨fp, h1, h2, h3⟩ := h
  exact ⟨fp, Rep.keep h1 m (fun b hb => Or.inr (by have := h3 b hb; omega)), h2, h3⟩
theorem New.sys {w w1 : World} {A : Option Addr} {c : Nat} {n : Int} {xs : List (Int × List Int)} (h : New lins w xs w1 [.slice A xs.length c]) : New Mem.sys w (n, xs) w1 [.int .i64 n, .slice A xs.length c] := by
  obtain ⟨fp, h1, h2, h3⟩ := h
  exact ⟨fp, sys_close h1, h2, h3⟩

end Mem
end Go.Proofs.YtgpjgjjadhmkhaaGreat
