import Derived.Test.YtbbllkhmenpnlaaGreatSysOwn
import Derived.Test.YtbbllkhmenpnlaaGreatLinSpec2
import Derived.Test.YtbbllkhmenpnlaaGreatRepGen
import Derived.Test.YtbbllkhmenpnlaaGreatLinImpl2
/-
  The program's copy of a system.
-/
namespace Go.Proofs.YtbbllkhmenpnlaaGreat
open Go.RowKit
namespace SysI
open RowK Mem LinM

theorem cloneC (lo hi : Nat) (A : Option Addr) (c : Nat) (zs : List Int) (w : World) (hA : Row lo hi w A (IntK.iv zs)) (hl : zs.length ≤ 1000000000) :
  Calls Tryz.prog 228 #[.slice A zs.length c] w (fun e w' => ∃ A c, e = .returned (.slice A zs.length c) ∧ Row w.heap.size w'.heap.size w' A (IntK.iv zs) ∧ Free w' A zs.length ∧ Below w.heap.size w w' ∧ zs.length ≤ c) := by
 have key : ∀ (w' : World) (v : Value), w'.ownsRow w.heap.size 3 1 v zs.length (IntK.iv zs) → Below w.heap.size w w' → ∃ A c, Ending.returned v = .returned (.slice A zs.length c) ∧ Row w.heap.size w'.heap.size w' A (IntK.iv zs) ∧ Free w' A zs.length ∧ Below w.heap.size w w' ∧ zs.length ≤ c := fun w' v h hb => by
  obtain ⟨A, c, e, h1, h2, h3, _⟩ := of_own h
  rw [IntK.iv_len] at h2
  exact ⟨A, c, by rw [e], h1, h2, hb, h3⟩
 by_cases hn : zs = []
 ·subst hn
  cases A with
  | none =>
   refine (Tryz.slices_Clone_int_nil _ _ _).mono ?_
   rintro e w' ⟨rfl, rfl⟩
   exact ⟨none, 0, rfl, row_nil _ _ _ _, free_zero _ _, Below.refl _ _, Nat.le_refl _⟩
  | some a =>
   refine (Tryz.slices_Clone_int_zero a c w).mono ?_
   rintro e w' ⟨v, rfl, h, _, hb⟩
   exact key w' v h hb
 ·obtain ⟨b, o, rfl, hlt, hc⟩ := hA (by simpa [IntK.iv] using hn)
  refine (Tryz.slices_Clone_int b o zs.length c zs w (Nat.le_refl _) (by omega) (fun j hj => ?_)).mono ?_
  ·rw [hc j (.int .i64 zs[j]) (by rw [List.getElem?_eq_getElem (by rw [IntK.iv_len]; exact hj), IntK.iv_get hj])]
   simp [List.getD, List.getElem?_eq_getElem hj]
  ·rintro e w' ⟨v, rfl, h, _, hb⟩
   rw [List.take_length] at h
   exact key w' v h hb

set_option maxHeartbeats 1000000 in
set_option maxRecDepth 100000 in
theorem copyLinC (lo hi : Nat) (z : Int) (A : Option Addr) (c : Nat) (zs : List Int) (w : World) (hA : Row lo hi w A (IntK.iv zs)) (hl : zs.length ≤ 1000000000) :
  Calls Tryz.prog 204 #[.agg #[.int .i64 z, .slice A zs.length c]] w (LinI.GaveC w z zs) := by
 have CL := Lib.hid (fun W (h : Below w.heap.size w W) => cloneC lo hi A c zs W (hA.below h) hl)
 go_enter Tryz.func204, Tryz.ntmps204
 go_wp2_with fail
 go_region_held3 (fun w' => w'.cell? ⟨w.heap.size, 0, none⟩ = some (.int .i64 z) ∧ w'.cell? ⟨w.heap.size, 1, none⟩ = some (.slice A zs.length c)) (first | go_keep | (refine ⟨?_, ?_⟩ <;> (rw [b1.cell (by simp; omega)]; simp; done)))
  ((go_at_call 228; refine (CL.out _ (((Below.refl _ _).alloc (Nat.le_refl _) _).alloc (by simp) _).drew).mono ?_; rintro e w1 ⟨A1, c1, rfl, r1, f1, b1, hcc⟩; (obtain ⟨hc1, hf1⟩ := LinK.bcell b1)))
 have b0 : Below w.heap.size w w1 := ((((Below.refl _ _).alloc (Nat.le_refl _) _).alloc (by simp) _).drew).trans (b1.mono (by simp; omega))
 have hsz := b1.size
 have hz1 : w.heap.size + 1 < w1.heap.size := by simp at hsz; omega
 have hk := LinI.keep_row (mid := w.heap.size + 2) b0 r1 f1 ((Mod.set w1 (p := ⟨w.heap.size + 1, 0, none⟩) (by simp) (by simp) (.int .i64 z)).trans (Mod.set _ (p := ⟨w.heap.size + 1, 1, none⟩) (by simp) (by simp) (.slice A1 zs.length c1))) (by simp) (by simp; omega) (Nat.le_refl _)
 go_wp2
 exact bodyPost_ret (v := .agg #[.int .i64 z, .slice A1 zs.length c1]) (by simp [results, Tryz.results204, go_sem, hc1]) rfl ⟨A1, c1, rfl, hk.1, hk.2.1, hk.2.2, hcc⟩

theorem run_mkT (n : Nat) (hn : n ≤ 1000000000000) (u : World) : (Instr.makeSlice 162 (.int .i64 (n : Int)) (.int .i64 (n : Int))).run Tryz.prog u =
  .ok (.slice (some ⟨u.heap.size, 0, none⟩) n n) (u.alloc (.cells (madeCells #[.int .i64 0, .slice none 0 0] (n * 2)) 108)) := by
 obtain ⟨i0, hi, hz0, hz1, hz2⟩ := info_parts linInfo
 have h := run_make (P := Tryz.prog) u 162 108 i0 (.agg #[.int .i64 0, .slice none 0 0]) Tryz.underlying162 hi hz0 .i64 .i64 (n : Int) (n : Int) (by omega) (Int.le_refl _) (by rw [hz2]; omega) (by omega)
 simpa [hz1, Value.cells] using h

set_option maxHeartbeats 1000000 in
set_option maxRecDepth 100000 in
theorem copied (A : Option Addr) (c : Nat) (xs : List (Int × List Int)) (w : World) (hA : SysK.Arg w A xs.length c xs) (hl : linsSize xs ≤ 1000000000) :
  Calls Tryz.prog 203 #[.slice A xs.length c, .func (.func 204) #[] #[]] w fun e w' => ∃ v, e = .returned v ∧ Owned lin 108 (fun b => w.heap.size ≤ b) w' v xs ∧ Below w.heap.size w w' := by
 have hxl : xs.length ≤ 1000000000 := by unfold linsSize at hl; omega
 have hmk := run_mkT xs.length (by omega)
 have HZ := Lib.hid (Filling.made (r := lin) (e := 108) (z := zeroLin) (ok := fun b => w.heap.size ≤ b) w (madeCells #[.int .i64 0, .slice none 0 0] (xs.length * 2)) (made_z xs.length) (Nat.le_refl _))
 have HB0 := Lib.hid ((Below.refl w.heap.size w).alloc (Nat.le_refl _) (Obj.cells (madeCells #[.int .i64 0, .slice none 0 0] (xs.length * 2)) 108))
 have HSZ := Lib.hid (fun x (h : x ∈ xs) => linsSize_mem h)
 have HL := Lib.hid hl
 obtain ⟨q, fp, hA⟩ := hA
 have HA := Lib.hid hA
 clear hl hA
 go_enter Tryz.func203, Tryz.ntmps203
 go_wp2
 go_loopw [13] (fun i wr => ∃ k : Nat, k ≤ xs.length ∧ i = .int .i64 k ∧ Filling lin 108 zeroLin (fun b => w.heap.size ≤ b) wr w.heap.size xs.length (xs.take k) ∧ Below w.heap.size w wr) (fun i _ => xs.length - (intOf i).toNat)
 case atStart => exact ⟨0, Nat.zero_le _, rfl, HZ.out, HB0.out⟩
 case round =>
  obtain ⟨k, hk, rfl, hS, hb⟩ := hrel
  have HS := Lib.hid hS
  have HB := Lib.hid hb
  clear hS hb
  by_cases hlt : k < xs.length
  ·obtain ⟨b, o, B, d, lo, hi, rfl, hbb, c0, c1, hd, hrow⟩ := lins_at (Rep.below HA.out HB.out) hlt
   have htl : (xs.take k).length = k := by rw [List.length_take]; omega
   have hk' : (xs.take k).length < xs.length := by rw [htl]; exact hlt
   obtain ⟨p0, q0⟩ := HS.out.cell (j := 0) (u := .int .i64 0) rfl hk' (Nat.succ_pos _) rfl
   obtain ⟨p1, q1⟩ := HS.out.cell (j := 1) (u := .slice none 0 0) rfl hk' (Nat.lt_succ_self _) rfl
   have p0 : wr.cell? ⟨w.heap.size, (xs.take k).length * 2, none⟩ = some (.int .i64 0) := p0
   have p1 : wr.cell? ⟨w.heap.size, (xs.take k).length * 2 + 1, none⟩ = some (.slice none 0 0) := p1
   have q0 : wr.frozen? ⟨w.heap.size, (xs.take k).length * 2, none⟩ = false := q0
   have q1 : wr.frozen? ⟨w.heap.size, (xs.take k).length * 2 + 1, none⟩ = false := q1
   rw [htl] at p0 p1 q0 q1
   have hz := HS.out.lt
   have hx := HSZ.out _ (List.getElem_mem hlt)
   have HT := Lib.hid (show xs.take (k + 1) = xs.take k ++ [xs[k]] by rw [List.take_add_one, List.getElem?_eq_getElem hlt]; rfl)
   have HTL := Lib.hid htl
   have hs9 : xs[k].2.length ≤ 1000000000 := by have := HL.out; omega
   clear htl hx hk'
   generalize xs[k] = x at *
   obtain ⟨z, zs⟩ := x
   simp only at c0 c1 hrow hs9 hd
   have ha : Below wr.heap.size wr (wr.alloc (Obj.cells #[Value.int IntKind.i64 z, Value.slice B zs.length d] 108)) := (Below.refl _ _).alloc (Nat.le_refl _) _
   have HAA := Lib.hid ha
   have CP := Lib.hid (copyLinC lo hi z B d zs _ (hrow.below ha) hs9)
   have hi0 : (0 : Int) ≤ (k : Int) := by omega
   have hi1 : (k : Int) < (xs.length : Int) := by omega
   clear hrow ha
   go_wp2_with fail
   refine (Calls.mono CP.out) ?_
   rintro e w1 ⟨G, c', rfl, rG, fG, b1, hcG⟩
   have bw : Below wr.heap.size wr w1 := HAA.out.trans (b1.mono HAA.out.size)
   have HW := Lib.hid bw
   obtain ⟨fpG, g1, g2, g3⟩ := lin_close (q := true) (z := z) rG (fun _ => fG) hcG
   have hS2 := Filling.snoc (m := wr.heap.size) HS.out rfl (by rw [HTL.out]; exact hlt) bw (Nat.le_refl _) g1 g2 (fun b hb => Nat.le_trans (by simp) (g3 b hb).1) (fun b hb => Nat.le_trans HB.out.size hb)
   rw [HTL.out, ← HT.out] at hS2
   have HS2 := Lib.hid (show Filling lin 108 zeroLin (fun b => w.heap.size ≤ b) ((w1.setCell ⟨w.heap.size, k * 2, none⟩ (.int .i64 z)).setCell ⟨w.heap.size, k * 2 + 1, none⟩ (.slice G zs.length c')) w.heap.size xs.length (xs.take (k + 1)) from hS2)
   have HB2 := Lib.hid (((HB.out.trans (bw.mono HB.out.size)).setCell (p := ⟨w.heap.size, k * 2, none⟩) (Nat.le_refl _) (.int .i64 z)).setCell (p := ⟨w.heap.size, k * 2 + 1, none⟩) (Nat.le_refl _) (.slice G zs.length c'))
   have p0' := (bw.cell (p := ⟨w.heap.size, k * 2, none⟩) hz).trans p0
   have p1' := (bw.cell (p := ⟨w.heap.size, k * 2 + 1, none⟩) hz).trans p1
   have q0' := (bw.frozen (p := ⟨w.heap.size, k * 2, none⟩) hz).trans q0
   have q1' := (bw.frozen (p := ⟨w.heap.size, k * 2 + 1, none⟩) hz).trans q1
   clear hS2 b1 bw p0 p1 q0 q1 c0 c1 rG fG g1 g2 g3
   go_wp2
   go_roundw
   case rel => exact ⟨k + 1, by omega, by go_num, HS2.out, HB2.out⟩
   case measure => simp [intOf]; omega
  ·obtain rfl : k = xs.length := by omega
   have hS := HS.out
   rw [List.take_length] at hS
   have HO := Lib.hid (hS.done (by unfold maxLen; omega))
   clear hS HS
   go_wp2
   go_ret
   exact ⟨_, rfl, HO.out, HB.out⟩

end SysI
end Go.Proofs.YtbbllkhmenpnlaaGreat
