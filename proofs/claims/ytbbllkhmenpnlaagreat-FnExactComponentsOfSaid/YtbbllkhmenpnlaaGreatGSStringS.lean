import Derived.Test.YtbbllkhmenpnlaaGreatRepUni
import Derived.Test.YtbbllkhmenpnlaaGreatRepGen
import Derived.Deep.RegionLaw
/-
  The laws' helpers on slices of slices of String: comparison, marks (made by tools/sskit.py).
-/
namespace Go.Proofs.YtbbllkhmenpnlaaGreat
open Go.RowKit
namespace Mem
open RowK
abbrev rowString : Rep (List ByteArray) := Rep.slice Rep.str
def szRowString (x : List ByteArray) : Nat := x.length + szs szStr x
def nRowString (x : List ByteArray) : Nat := szs nStr x
def mkRowString (k : Nat) (x : List ByteArray) : List ByteArray := mks mkStr nStr k x
theorem nRowString_le (x : List ByteArray) : nRowString x ≤ 8 * (1 + szRowString x) := by
 have := szs_bound nStr_le x
 unfold nRowString szRowString
 omega
theorem rowString_at {q : Bool} {w : World} {fp : List Nat} {A : Option Addr} {n c : Nat} {xs : List (List ByteArray)} (h : (Rep.slice rowString).rep q w fp [.slice A n c] xs) {k : Nat} (hk : k < xs.length) :
  ∃ b o B d f, A = some ⟨b, o, none⟩ ∧ b < w.heap.size ∧ w.cell? ⟨b, o + k, none⟩ = some (.slice B xs[k].length d) ∧ rowString.rep q w f [.slice B xs[k].length d] xs[k] := by
 obtain ⟨b, o, f, cs, rfl, hb, hr, hc, _⟩ := slice_at h hk
 obtain ⟨B, d, rfl, h9⟩ := id hr
 have hn : rowString.n = 1 := rfl
 rw [hn] at hc
 have h0 := hc 0 (by omega)
 rw [Nat.mul_one] at h0
 exact ⟨b, o, B, d, f, rfl, hb, h0, hr⟩
set_option maxHeartbeats 4000000 in
set_option maxRecDepth 100000 in
theorem eqStringSSU (q q2 : Bool) (fp gp : List Nat) (A B : Option Addr) (c d : Nat) (xs : List (List ByteArray)) (w : World) (hA : (Rep.slice rowString).rep q w fp [.slice A xs.length c] xs) (hB : (Rep.slice rowString).rep q2 w gp [.slice B xs.length d] xs) (hl : xs.length + szs szRowString xs ≤ 100000000) :
  Calls Tryz.prog 38 #[.slice A xs.length c, .slice B xs.length d] w fun e w' => e = .returned (.bool true) ∧ Below w.heap.size w w' := by
 have HL := Lib.hid hl
 clear hl
 have hxl : xs.length ≤ 1000000000 := by have := HL.out; omega
 go_enter Tryz.func38, Tryz.ntmps38
 go_wp2
 go_loopw [5] (fun i wr => ∃ k : Nat, k ≤ xs.length ∧ i = .int .i64 k ∧ Below w.heap.size w wr) (fun i _ => xs.length - (intOf i).toNat)
 case atStart => exact ⟨0, Nat.zero_le _, rfl, Below.refl _ _⟩
 case round =>
  obtain ⟨k, hk, rfl, hb⟩ := hrel
  by_cases hlt : k < xs.length
  ·obtain ⟨b, o, A1, c1, f1, rfl, hbb, g0, r0⟩ := rowString_at (Rep.below hA hb) hlt
   obtain ⟨b', o', B1, d1, f2, rfl, hbb', g1, r1⟩ := rowString_at (Rep.below hB hb) hlt
   have hs9 : xs[k].length + szs szStr xs[k] ≤ 100000000 := by
    have := HL.out
    have h2 := szs_mem (sz := szRowString) (List.getElem_mem hlt)
    unfold szRowString at h2
    unfold szRowString at this
    omega
   have hd : Below wr.heap.size wr wr.drew := (Below.refl _ _).drew
   have EQ := Lib.hid (eqStringSU q q2 f1 f2 A1 B1 c1 d1 xs[k] wr.drew (Rep.below r0 hd) (Rep.below r1 hd) hs9)
   have hi0 : (0 : Int) ≤ (k : Int) := by omega
   have hi1 : (k : Int) < (xs.length : Int) := by omega
   clear hd r0 r1
   generalize xs[k].length = m at *
   go_wp2_with fail
   go_region_law (first
    | (go_simp; go_at_call 35; refine (Calls.mono EQ.out) ?_; rintro e w1 ⟨rfl, b1⟩))
   all_goals
    have B1' := Lib.hid (hb.trans (((Below.refl wr.heap.size wr).drew.trans b1).mono hb.size))
    clear b1
    go_wp2
    go_roundw
    case rel => exact ⟨k + 1, by omega, by go_num, B1'.out⟩
    case measure => simp [intOf]; omega
  ·go_wp2
   go_ret
   exact ⟨rfl, hb⟩
def HeldRowString (w : World) (xs : List (List ByteArray)) (k0 : Nat) (x i : Value) (wr : World) : Prop :=
 ∃ k l : Nat, k ≤ xs.length ∧ i = .int .i64 k ∧ x = .int .i64 l ∧ l = k0 + szs nRowString (xs.take k) ∧ Below w.heap.size w wr
set_option maxHeartbeats 4000000 in
set_option maxRecDepth 100000 in
theorem heldStringSSU (q : Bool) (fp : List Nat) (A : Option Addr) (c k0 : Nat) (xs : List (List ByteArray)) (w : World) (hA : (Rep.slice rowString).rep q w fp [.slice A xs.length c] (mks mkRowString nRowString k0 xs)) (h1 : 1 ≤ k0) (hk0 : k0 + 8 * (xs.length + szs szRowString xs) ≤ 1000000000) :
  Calls Tryz.prog 40 #[.slice A xs.length c, .int .i64 k0] w fun e w' => e = .returned (.int .i64 ((k0 + szs nRowString xs : Nat) : Int)) ∧ Below w.heap.size w w' := by
 have hxl : xs.length ≤ 1000000000 := by omega
 have HK := Lib.hid hk0
 have HK1 := Lib.hid h1
 have HA := Lib.hid hA
 clear hA hk0 h1
 go_enter Tryz.func40, Tryz.ntmps40
 go_wp2
 go_loopw [1, 5] (fun x i wr => HeldRowString w xs k0 x i wr) (fun _ i _ => xs.length - (intOf i).toNat)
 case atStart => exact ⟨0, k0, Nat.zero_le _, rfl, rfl, by simp [szs], Below.refl _ _⟩
 case round =>
  obtain ⟨k, l, hk, rfl, rfl, hsum, hb⟩ := hrel
  by_cases hlt : k < xs.length
  ·have hlm : k < (mks mkRowString nRowString k0 xs).length := by rw [mks_len]; exact hlt
   obtain ⟨b, o, B1, d1, f1, rfl, hbb, g0, r0⟩ := rowString_at (Rep.below HA.out hb) hlm
   rw [mks_at k0 xs hlt hlm, ← hsum] at g0 r0
   have hl9 : 1 ≤ l ∧ l + 8 * (xs[k].length + szs szStr xs[k]) ≤ 1000000000 := by
    have h2 := szs_bound nRowString_le (xs.take k)
    have h3 := szs_step (sz := szRowString) hlt
    have h4 := szs_take (sz := szRowString) xs (k + 1)
    have h5 : (xs.take k).length = k := by rw [List.length_take]; omega
    have h6 : szRowString xs[k] = xs[k].length + szs szStr xs[k] := rfl
    have := HK.out
    have := HK1.out
    omega
   have h2 := szs_step (sz := nRowString) hlt
   have hml : (mkRowString l xs[k]).length = xs[k].length := by unfold mkRowString; rw [mks_len]
   rw [hml] at g0 r0
   have CA := Lib.hid (heldStringSU q f1 B1 d1 l xs[k] wr r0 hl9.1 hl9.2)
   have hl2 : l + szs nStr xs[k] ≤ 1000000000 := by
    have h7 := szs_bound nStr_le xs[k]
    omega
   have H2 := Lib.hid (show szs nRowString (xs.take (k + 1)) = szs nRowString (xs.take k) + szs nStr xs[k] from h2)
   have HS := Lib.hid hsum
   have hi0 : (0 : Int) ≤ (k : Int) := by omega
   have hi1 : (k : Int) < (xs.length : Int) := by omega
   have HB := Lib.hid hb
   clear h2 hsum hl9 hml hlm r0 hb
   generalize szs nStr xs[k] = m at *
   generalize xs[k].length = m2 at *
   obtain ⟨l2, hl3⟩ : ∃ l2 : Nat, l2 = l + m := ⟨_, rfl⟩
   rw [← hl3] at CA hl2
   have HL3 := Lib.hid hl3
   have hneg : decide ((l2 : Int) < 0) = false := decide_eq_false (by omega)
   clear hl3
   go_wp2_with fail
   refine (Calls.mono CA.out) ?_
   rintro e w1 ⟨rfl, b1⟩
   have B1 := Lib.hid (HB.out.trans (b1.mono HB.out.size))
   clear b1
   go_wp2
   go_roundw
   case rel => exact ⟨k + 1, l2, by omega, by go_num, rfl, by have := HS.out; have := H2.out; have := HL3.out; omega, B1.out⟩
   case measure => simp [intOf]; omega
  ·obtain rfl : k = xs.length := by omega
   rw [List.take_length] at hsum
   have HR := Lib.hid (show (l : Int) = ((k0 + szs nRowString xs : Nat) : Int) by omega)
   clear hsum
   go_wp2
   go_ret
   exact ⟨by rw [← HR.out]; rfl, hb⟩
set_option maxHeartbeats 4000000 in
set_option maxRecDepth 100000 in
theorem markStringSSU (fp : List Nat) (A : Option Addr) (c k0 : Nat) (xs : List (List ByteArray)) (w : World) (hA : (Rep.slice rowString).rep true w fp [.slice A xs.length c] xs) (hn : fp.Nodup) (h1 : 1 ≤ k0) (hk0 : k0 + 8 * (xs.length + szs szRowString xs) ≤ 1000000000) :
  Calls Tryz.prog 39 #[.slice A xs.length c, .int .i64 k0] w (MarkedU rowString mkRowString nRowString fp w A c k0 xs) := by
 by_cases h0 : xs = []
 ·subst h0
  have F := Lib.hid (show MarkedU rowString mkRowString nRowString fp w A c k0 [] (.returned (.int .i64 k0)) w from ⟨by simp [szs], hA, ModF.refl _ _⟩)
  clear hA
  go_enter Tryz.func39, Tryz.ntmps39
  go_wp2
  refine wp_loop_rounds 1 ?_
  rw [rounds_succ]
  go_wp2
  go_ret
  exact F.out
 ·have HK := Lib.hid hk0
  have hxl : xs.length ≤ 1000000000 := by omega
  have HK1 := Lib.hid h1
  have HNE := Lib.hid h0
  have HC := Lib.hid (show xs.length ≤ c by
   obtain ⟨_, _, e, h, _⟩ := hA
   injection e with e _
   injection e with _ _ e
   omega)
  have M0 := Lib.hid (marking_zero (mk := mkRowString) (sz := nRowString) k0 hA hn h0)
  clear hA hk0 h0 hn h1
  go_enter Tryz.func39, Tryz.ntmps39
  go_wp2
  go_loopw [1, 5] (fun x i wr => Marking rowString mkRowString nRowString fp w xs A k0 x i wr) (fun _ i _ => xs.length - (intOf i).toNat)
  case atStart => exact M0.out
  case round =>
   obtain ⟨k, l, rfl, rfl, hk, hl0⟩ : ∃ k l : Nat, u5 = .int .i64 k ∧ u1 = .int .i64 l ∧ k ≤ xs.length ∧ l = k0 + szs nRowString (xs.take k) := by
    obtain ⟨k, l, _, _, _, _, h1, h2, h3, h4, _⟩ := hrel
    exact ⟨k, l, h2, h3, h1, h4⟩
   by_cases hlt : k < xs.length
   ·obtain ⟨b, o, f, cs, rfl, hbb, hre, hnd, hbf, hcc, hff, hnext⟩ := marking_at hrel hlt
    have hl9 : 1 ≤ l ∧ l + 8 * (xs[k].length + szs szStr xs[k]) ≤ 1000000000 := by
     have h2 := szs_bound nRowString_le (xs.take k)
     have h3 := szs_step (sz := szRowString) hlt
     have h4 := szs_take (sz := szRowString) xs (k + 1)
     have h5 : (xs.take k).length = k := by rw [List.length_take]; omega
     have h6 : szRowString xs[k] = xs[k].length + szs szStr xs[k] := rfl
     have := HK.out
     have := HK1.out
     omega
    clear hl0
    obtain ⟨B1, d1, hcs, h9⟩ := id hre
    subst hcs
    have g0 := hcc 0 (by decide)
    simp only [show rowString.n = 1 from rfl, Nat.mul_one, Nat.add_zero, List.getElem?_cons_zero] at g0
    have CA := Lib.hid (markStringSU f B1 d1 l xs[k] wr hre hnd hl9.1 hl9.2)
    have hl2 : l + szs nStr xs[k] ≤ 1000000000 := by
     have h7 := szs_bound nStr_le xs[k]
     omega
    have HNX := Lib.hid (show ∀ w2 : World, rowString.rep true w2 f [.slice B1 xs[k].length d1] (mks mkStr nStr l xs[k]) → ModF f wr w2 → Marking rowString mkRowString nRowString fp w xs (some ⟨b, o, none⟩) k0 (.int .i64 ((l + szs nStr xs[k] : Nat) : Int)) (.int .i64 ((k + 1 : Nat) : Int)) w2 from fun w2 hr hm => by
     have hkb := hm.block b hbb hbf
     refine hnext w2 [.slice B1 xs[k].length d1] hr (hm.wider (fun x hx => List.mem_cons_of_mem _ hx)) (fun j _ => World.cell?_of_block hkb) (fun i hi => ?_) (fun j => World.frozen?_of_block hkb)
     rw [World.cell?_of_block hkb]
     exact hcc i hi)
    have hi0 : (0 : Int) ≤ (k : Int) := by omega
    have hi1 : (k : Int) < (xs.length : Int) := by omega
    clear hl9 hcc hff hre hrel hnext h9 hnd hbf
    generalize hm9 : szs nStr xs[k] = m at *
    generalize xs[k] = x at *
    unfold MarkedU at CA
    rw [hm9] at CA
    obtain ⟨l2, hl3⟩ : ∃ l2 : Nat, l2 = l + m := ⟨_, rfl⟩
    rw [← hl3] at CA hl2 HNX
    clear hl3 hm9
    go_wp2_with fail
    refine (Calls.mono CA.out) ?_
    rintro e w1 ⟨rfl, hr1, hm1⟩
    have HN := HNX.out w1 hr1 hm1
    rw [show ((k + 1 : Nat) : Int) = (k : Int) + 1 by omega] at HN
    have HN := Lib.hid HN
    clear hr1 hm1 HNX
    go_wp2
    go_roundw
    case rel => exact HN.out
    case measure => simp [intOf]; omega
   ·obtain rfl : k = xs.length := by omega
    obtain ⟨h1, h2, h3⟩ := marking_end HC.out HNE.out hrel
    have F := Lib.hid (show MarkedU rowString mkRowString nRowString fp w A c k0 xs (.returned (.int .i64 l)) wr from ⟨by rw [h3]; simp, h1, h2⟩)
    clear h1 h2 h3 hrel
    go_wp2
    go_ret
    exact F.out
end Mem
end Go.Proofs.YtbbllkhmenpnlaaGreat

/-
  Results of a law: slices of StringS: comparison and marks (made by tools/p13.py).
-/
namespace Go.Proofs.YtbbllkhmenpnlaaGreat
open Go.RowKit
namespace Mem
open RowK
theorem eqStringSSR (A B : Option Addr) (c d : Nat) (xs : List (List ByteArray)) (w : World) (h : ArgS rowString w A xs.length c xs) (k : ArgS rowString w B xs.length d xs) (hl : xs.length + szs szRowString xs ≤ 100000000) :
  Calls Tryz.prog 38 #[.slice A xs.length c, .slice B xs.length d] w fun e w' => e = .returned (.bool true) ∧ Below w.heap.size w w' := by
 obtain ⟨q, fp, h⟩ := h
 obtain ⟨q2, fp2, k⟩ := k
 exact eqStringSSU q q2 fp fp2 A B c d xs w h k hl
theorem markStringSSR (lo hi : Nat) (A : Option Addr) (c : Nat) (xs : List (List ByteArray)) (k1 : Nat) (hk9 : k1 = 1 + szs nRowString xs) (w : World) (h : OwnS rowString lo hi w A xs.length c xs) (hk : xs.length + szs szRowString xs ≤ 100000000) :
  Calls Tryz.prog 39 #[.slice A xs.length c, .int .i64 1] w fun e w' => e = .returned (.int .i64 (k1 : Int)) ∧ OwnS rowString lo hi w' A xs.length c (mks mkRowString nRowString 1 xs) ∧ Mod lo hi w w' := by
 rw [hk9]
 obtain ⟨h0, fp, h2, h3, h4⟩ := h
 exact (markStringSSU fp A c 1 xs w h2 h3 (by omega) (by omega)).mono fun e w' ⟨he, hr, hm⟩ => ⟨he, ⟨Nat.le_trans h0 hm.size, fp, hr, h3, h4⟩, hm.mod h4⟩
theorem heldStringSSR (A : Option Addr) (c : Nat) (xs : List (List ByteArray)) (k1 : Nat) (hk9 : k1 = 1 + szs nRowString xs) (w : World) (h : ArgS rowString w A xs.length c (mks mkRowString nRowString 1 xs)) (hk : xs.length + szs szRowString xs ≤ 100000000) :
  Calls Tryz.prog 40 #[.slice A xs.length c, .int .i64 1] w fun e w' => e = .returned (.int .i64 (k1 : Int)) ∧ Below w.heap.size w w' := by
 rw [hk9]
 obtain ⟨q, fp, h⟩ := h
 exact heldStringSSU q fp A c 1 xs w h (by omega) (by omega)
end Mem
end Go.Proofs.YtbbllkhmenpnlaaGreat
