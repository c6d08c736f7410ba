import Derived.Test.YtbbllkhmenpnlaaGreatRepGen
import Derived.Test.YtbbllkhmenpnlaaGreatStrMark
import Derived.Deep.RegionLaw
/-
  Terms as data in memory, and slices of them: the laws' helpers.
-/
namespace Go.Proofs.YtbbllkhmenpnlaaGreat
open Go.RowKit
namespace Mem
open RowK

def term : Rep (Int × ByteArray) := Rep.prod Rep.int Rep.str
def terms : Rep (List (Int × ByteArray)) := Rep.slice term
theorem term_open {q : Bool} {w : World} {fp : List Nat} {cs : List Value} {p : Int × ByteArray} (h : term.rep q w fp cs p) : fp = [] ∧ cs = [.int .i64 p.1, .string p.2] := by
 obtain ⟨f1, f2, c1, c2, rfl, rfl, ⟨rfl, rfl⟩, ⟨rfl, rfl⟩⟩ := h
 exact ⟨rfl, rfl⟩
theorem term_close (q : Bool) (w : World) (z : Int) (s : ByteArray) : term.rep q w [] [.int .i64 z, .string s] (z, s) := ⟨[], [], _, _, rfl, rfl, ⟨rfl, rfl⟩, ⟨rfl, rfl⟩⟩
theorem terms_at {q : Bool} {w : World} {fp : List Nat} {A : Option Addr} {n c : Nat} {xs : List (Int × ByteArray)} (h : terms.rep q w fp [.slice A n c] xs) {k : Nat} (hk : k < xs.length) :
  ∃ b o, A = some ⟨b, o, none⟩ ∧ b < w.heap.size ∧ w.cell? ⟨b, o + k * 2, none⟩ = some (.int .i64 xs[k].1) ∧ w.cell? ⟨b, o + k * 2 + 1, none⟩ = some (.string xs[k].2) := by
 obtain ⟨b, o, f, cs, rfl, hb, hr, hc, _⟩ := slice_at h hk
 obtain ⟨_, rfl⟩ := term_open hr
 exact ⟨b, o, rfl, hb, hc 0 (Nat.succ_pos _), hc 1 (Nat.lt_succ_self _)⟩
theorem ArgS.term_at {w : World} {A : Option Addr} {n c : Nat} {xs : List (Int × ByteArray)} (h : ArgS term w A n c xs) {k : Nat} (hk : k < xs.length) :
  ∃ b o, A = some ⟨b, o, none⟩ ∧ b < w.heap.size ∧ w.cell? ⟨b, o + k * 2, none⟩ = some (.int .i64 xs[k].1) ∧ w.cell? ⟨b, o + k * 2 + 1, none⟩ = some (.string xs[k].2) := by
 obtain ⟨q, fp, h⟩ := h
 exact terms_at h hk
def tsz (x : Int × ByteArray) : Nat := x.2.size
def WfTerm (x : Int × ByteArray) : Prop := (Lit.int .i64 x.1).wf = true ∧ x.2.size ≤ 9223372036854775807
def termsSize (xs : List (Int × ByteArray)) : Nat := xs.length + szs tsz xs
def mkTerm (k : Nat) (_ : Int × ByteArray) : Int × ByteArray := ((k : Int), StrK.mt (k + 1))
def nTerm (_ : Int × ByteArray) : Nat := 2
abbrev marksT (k : Nat) (xs : List (Int × ByteArray)) : List (Int × ByteArray) := mks mkTerm nTerm k xs
theorem nTerms : ∀ xs : List (Int × ByteArray), szs nTerm xs = 2 * xs.length
 | [] => rfl
 | x :: xs => by rw [szs_cons, nTerms xs, List.length_cons]; unfold nTerm; omega
theorem termInfo9 : (Tryz.prog.info? 161).map (fun i => (i.zero, i.size, i.bytes)) = some (some (.agg #[.int .i64 0, .string ByteArray.empty]), 2, 24) := by kernel_rfl
def zeroTerm : El (Int × ByteArray) := ([], [.int .i64 0, .string ByteArray.empty], (0, ByteArray.empty))

set_option maxHeartbeats 1000000 in
set_option maxRecDepth 100000 in
theorem copyTerm (z : Int) (s : ByteArray) (w : World) :
  Calls Tryz.prog 230 #[.agg #[.int .i64 z, .string s]] w fun e w' => e = .returned (.agg #[.int .i64 z, .string s]) ∧ Below w.heap.size w w' := by
 have F : ∀ u v : Value, Below w.heap.size w (((((w.alloc (Obj.cells #[Value.int IntKind.i64 z, Value.string s] 261)).alloc (Obj.cells #[Value.int IntKind.i64 0, Value.string ByteArray.empty] 161)).alloc (Obj.cells #[Value.int IntKind.i64 z, Value.string ByteArray.empty] 161)))) := fun _ _ => (((Below.refl _ _).alloc (Nat.le_refl _) _).alloc (by simp) _).alloc (by simp; omega) _
 go_enter Tryz.func230, Tryz.ntmps230
 go_wp2
 refine bodyPost_ret (v := .agg #[.int .i64 z, .string s]) (by simp [results, Tryz.results230, go_sem]) rfl ⟨rfl, ?_⟩
 repeat first
  | exact Below.refl _ _
  | refine Below.setCell ?_ (by simp <;> omega) _
  | refine Below.alloc ?_ (by simp <;> omega) _
set_option maxHeartbeats 1000000 in
set_option maxRecDepth 100000 in
theorem sizeTerm (z : Int) (s : ByteArray) (L : Nat) (w : World) (hL : L ≤ 1000000000) (hs : s.size ≤ 9223372036854775807) :
  Calls Tryz.prog 229 #[.agg #[.int .i64 z, .string s], .int .i64 L] w fun e w' => e = .returned (.int .i64 (IntK.leftOf L s.size)) ∧ Below w.heap.size w w' := by
 unfold IntK.leftOf
 by_cases h0 : s.size ≤ L
 ·rw [if_pos h0]
  have hn : decide ((L : Int) - (s.size : Int) < 0) = false := decide_eq_false (by omega)
  go_enter Tryz.func229, Tryz.ntmps229
  go_wp2
  go_ret
  exact ⟨rfl, (Below.refl _ _).alloc (Nat.le_refl _) _⟩
 ·rw [if_neg h0]
  have hn : decide ((L : Int) - (s.size : Int) < 0) = true := decide_eq_true (by omega)
  go_enter Tryz.func229, Tryz.ntmps229
  go_wp2
  go_ret
  exact ⟨rfl, (Below.refl _ _).alloc (Nat.le_refl _) _⟩
set_option maxHeartbeats 1000000 in
set_option maxRecDepth 100000 in
theorem eqTerm (z : Int) (s : ByteArray) (w : World) :
  Calls Tryz.prog 231 #[.agg #[.int .i64 z, .string s], .agg #[.int .i64 z, .string s]] w fun e w' => e = .returned (.bool true) ∧ Below w.heap.size w w' := by
 have B0 := Lib.hid (((Below.refl w.heap.size w).alloc (Nat.le_refl _) (Obj.cells #[Value.int IntKind.i64 z, Value.string s] 161)).alloc (by simp) (Obj.cells #[Value.int IntKind.i64 z, Value.string s] 161))
 go_enter Tryz.func231, Tryz.ntmps231
 go_wp2
 go_ret
 exact ⟨rfl, B0.out⟩

theorem run_mkTerm (n : Nat) (hn : n ≤ 1000000000000) (u : World) : (Instr.makeSlice 99 (.int .i64 (n : Int)) (.int .i64 (n : Int))).run Tryz.prog u =
  .ok (.slice (some ⟨u.heap.size, 0, none⟩) n n) (u.alloc (.cells (madeCells #[.int .i64 0, .string ByteArray.empty] (n * 2)) 161)) := by
 obtain ⟨i0, hi, hz0, hz1, hz2⟩ := info_parts termInfo9
 have h := run_make (P := Tryz.prog) u 99 161 i0 (.agg #[.int .i64 0, .string ByteArray.empty]) Tryz.underlying99 hi hz0 .i64 .i64 (n : Int) (n : Int) (by omega) (Int.le_refl _) (by rw [hz2]; omega) (by omega)
 simpa [hz1, Value.cells] using h
def CopiedTermS (w : World) (xs : List (Int × ByteArray)) (e : Ending) (w' : World) : Prop := ∃ A, e = .returned (.slice A xs.length xs.length) ∧ New terms w xs w' [.slice A xs.length xs.length] ∧ Below w.heap.size w w'
set_option maxHeartbeats 1000000 in
set_option maxRecDepth 100000 in
theorem copyTermS (q : Bool) (fp : List Nat) (A : Option Addr) (c : Nat) (xs : List (Int × ByteArray)) (w : World) (hA : terms.rep q w fp [.slice A xs.length c] xs) (hl : xs.length ≤ 1000000000) :
  Calls Tryz.prog 211 #[.slice A xs.length c] w (CopiedTermS w xs) := by
 have hxl : xs.length ≤ 1000000000 := by omega
 have hmk := run_mkTerm xs.length (by omega)
 have HZ := Lib.hid (Filling.made (r := term) (e := 161) (z := zeroTerm) (ok := fun b => w.heap.size ≤ b) w (madeCells #[.int .i64 0, .string ByteArray.empty] (xs.length * 2)) (made_gen [.int .i64 0, .string ByteArray.empty] ((0, ByteArray.empty)) (by simp) xs.length) (Nat.le_refl _))
 have HB0 := Lib.hid ((Below.refl w.heap.size w).alloc (Nat.le_refl _) (Obj.cells (madeCells #[.int .i64 0, .string ByteArray.empty] (xs.length * 2)) 161))
 have HL := Lib.hid hl
 have HA := Lib.hid hA
 clear hl hA
 go_enter Tryz.func211, Tryz.ntmps211
 go_wp2
 go_loopw [4] (fun i wr => ∃ k : Nat, k ≤ xs.length ∧ i = .int .i64 k ∧ Filling term 161 zeroTerm (fun b => w.heap.size ≤ b) wr w.heap.size xs.length (xs.take k) ∧ Below w.heap.size w wr) (fun i _ => xs.length - (intOf i).toNat)
 case atStart => exact ⟨0, Nat.zero_le _, rfl, HZ.out, HB0.out⟩
 case round =>
  obtain ⟨k, hk, rfl, hS, hb⟩ := hrel
  have HS := Lib.hid hS
  have HB := Lib.hid hb
  clear hS hb
  by_cases hlt : k < xs.length
  ·obtain ⟨b, o, rfl, hbb, c0, c1⟩ := terms_at (Rep.below HA.out HB.out) hlt
   have htl : (xs.take k).length = k := by rw [List.length_take]; omega
   have hk' : (xs.take k).length < xs.length := by rw [htl]; exact hlt
   obtain ⟨p0, q0⟩ := HS.out.cell (j := 0) (u := .int .i64 0) rfl hk' (Nat.succ_pos _) rfl
   obtain ⟨p1, q1⟩ := HS.out.cell (j := 1) (u := .string ByteArray.empty) rfl hk' (Nat.lt_succ_self _) rfl
   have p0 : wr.cell? ⟨w.heap.size, (xs.take k).length * 2, none⟩ = some (.int .i64 0) := p0
   have p1 : wr.cell? ⟨w.heap.size, (xs.take k).length * 2 + 1, none⟩ = some (.string ByteArray.empty) := p1
   have q0 : wr.frozen? ⟨w.heap.size, (xs.take k).length * 2, none⟩ = false := q0
   have q1 : wr.frozen? ⟨w.heap.size, (xs.take k).length * 2 + 1, none⟩ = false := q1
   rw [htl] at p0 p1 q0 q1
   have hz := HS.out.lt
   have HT := Lib.hid (take_snoc hlt)
   have HTL := Lib.hid htl

   clear htl hk'
   generalize xs[k] = x at *
   obtain ⟨z, s⟩ := x
   simp only at c0 c1
   have CP := Lib.hid (copyTerm z s wr)
   have hi0 : (0 : Int) ≤ (k : Int) := by omega
   have hi1 : (k : Int) < (xs.length : Int) := by omega
   go_wp2_with fail
   refine (Calls.mono CP.out) ?_
   rintro e w1 ⟨rfl, b1⟩
   have HW := Lib.hid b1
   have hS2 := Filling.snoc (m := wr.heap.size) HS.out rfl (by rw [HTL.out]; exact hlt) b1 (Nat.le_refl _) (term_close true _ z s) List.nodup_nil (fun b hb => by cases hb) (fun b hb => Nat.le_trans HB.out.size hb)
   rw [HTL.out, ← HT.out] at hS2
   have HS2 := Lib.hid (show Filling term 161 zeroTerm (fun b => w.heap.size ≤ b) ((w1.setCell ⟨w.heap.size, k * 2, none⟩ (.int .i64 z)).setCell ⟨w.heap.size, k * 2 + 1, none⟩ (.string s)) w.heap.size xs.length (xs.take (k + 1)) from hS2)
   have HB2 := Lib.hid (((HB.out.trans (b1.mono HB.out.size)).setCell (p := ⟨w.heap.size, k * 2, none⟩) (Nat.le_refl _) (.int .i64 z)).setCell (p := ⟨w.heap.size, k * 2 + 1, none⟩) (Nat.le_refl _) (.string s))
   have p0' := (b1.cell (p := ⟨w.heap.size, k * 2, none⟩) hz).trans p0
   have p1' := (b1.cell (p := ⟨w.heap.size, k * 2 + 1, none⟩) hz).trans p1
   have q0' := (b1.frozen (p := ⟨w.heap.size, k * 2, none⟩) hz).trans q0
   have q1' := (b1.frozen (p := ⟨w.heap.size, k * 2 + 1, none⟩) hz).trans q1
   clear hS2 b1 p0 p1 q0 q1 c0 c1
   go_wp2
   go_roundw
   case rel => exact ⟨k + 1, by omega, by go_num, HS2.out, HB2.out⟩
   case measure => simp [intOf]; omega
  ·obtain rfl : k = xs.length := by omega
   have hS := HS.out
   rw [List.take_length] at hS
   obtain ⟨A2, c2, fp2, h1, h2, h3, h4⟩ := (hS.done (by unfold maxLen; have := HL.out; omega)).rep (Nat.succ_pos _)
   injection h1 with h1 _ h5
   subst h1; subst h5
   have HN := Lib.hid (show New terms w xs wr [.slice (some ⟨w.heap.size, 0, none⟩) xs.length xs.length] from ⟨fp2, h2, h3, h4⟩)
   clear hS HS h2 h3 h4
   go_wp2
   go_ret
   exact ⟨_, rfl, HN.out, HB.out⟩

def SzTerm (w : World) (xs : List (Int × ByteArray)) (m : Nat) (x i : Value) (wr : World) : Prop :=
 ∃ k l : Nat, k ≤ xs.length ∧ i = .int .i64 k ∧ x = .int .i64 l ∧ l + szs tsz (xs.take k) + xs.length = m ∧ Below w.heap.size w wr
set_option maxHeartbeats 1000000 in
set_option maxRecDepth 100000 in
theorem sizeTermS (q : Bool) (fp : List Nat) (A : Option Addr) (c L : Nat) (xs : List (Int × ByteArray)) (w : World) (hA : terms.rep q w fp [.slice A xs.length c] xs) (hL : L ≤ 1000000000) (hl : xs.length ≤ 9223372036854775807) (hs : ∀ x ∈ xs, WfTerm x) :
  Calls Tryz.prog 208 #[.slice A xs.length c, .int .i64 L] w fun e w' => e = .returned (.int .i64 (IntK.leftOf L (termsSize xs))) ∧ Below w.heap.size w w' := by
 have HS := Lib.hid hs
 by_cases h0 : xs.length ≤ L
 ·have hlt0 : decide ((L : Int) - (xs.length : Int) < 0) = false := decide_eq_false (by omega)
  have hx9 : xs.length ≤ 1000000000 := by omega
  clear hs
  go_enter Tryz.func208, Tryz.ntmps208
  go_wp2
  go_loopw [1, 5] (fun x i wr => SzTerm w xs L x i wr) (fun _ i _ => xs.length - (intOf i).toNat)
  case atStart => exact ⟨0, L - xs.length, Nat.zero_le _, rfl, congrArg (Value.int .i64) (by omega), by simp [szs]; omega, Below.refl _ _⟩
  case round =>
   obtain ⟨k, l, hk, rfl, rfl, hsum, hb⟩ := hrel
   by_cases hlt : k < xs.length
   ·obtain ⟨b, o, rfl, hbb, c0, c1⟩ := terms_at (Rep.below hA hb) hlt
    have hxs := HS.out _ (List.getElem_mem hlt)
    have hts := szs_step (sz := tsz) hlt
    have hle := szs_take (sz := tsz) xs (k + 1)
    generalize xs[k] = x at *
    obtain ⟨z, s⟩ := x
    simp only [tsz] at c0 c1 hxs hts
    have SZ := Lib.hid (sizeTerm z s l wr (by omega) hxs.2)
    have HT := Lib.hid hts
    have HE := Lib.hid hle
    have HM := Lib.hid hsum
    unfold IntK.leftOf at SZ
    clear hts hle hsum
    by_cases hc : s.size ≤ l
    ·rw [if_pos hc] at SZ
     obtain ⟨l', rfl⟩ : ∃ l', l = s.size + l' := ⟨l - s.size, by omega⟩
     rw [show ((s.size + l' : Nat) : Int) - ((s.size : Nat) : Int) = (l' : Int) by omega] at SZ
     have hl0 : decide ((l' : Int) < 0) = false := decide_eq_false (by omega)
     clear hc
     go_wp2_with fail
     refine (Calls.mono SZ.out) ?_
     rintro e w1 ⟨rfl, b1⟩
     have B1 := Lib.hid (hb.trans (b1.mono hb.size))
     clear b1
     go_wp2
     go_roundw
     case rel => exact ⟨k + 1, l', by omega, by go_num, rfl, by have := HM.out; have := HT.out; omega, B1.out⟩
     case measure => simp [intOf]; omega
    ·rw [if_neg hc] at SZ
     have HR := Lib.hid (show IntK.leftOf L (termsSize xs) = -1 from if_neg (by unfold termsSize; have := HM.out; have := HT.out; have := HE.out; omega))
     clear hc
     go_wp2_with fail
     refine (Calls.mono SZ.out) ?_
     rintro e w1 ⟨rfl, b1⟩
     have B1 := Lib.hid (hb.trans (b1.mono hb.size))
     clear b1
     go_wp2
     go_ret
     exact ⟨by rw [HR.out]; rfl, B1.out⟩
   ·obtain rfl : k = xs.length := by omega
    rw [List.take_length] at hsum
    have HR := Lib.hid (show IntK.leftOf L (termsSize xs) = (l : Int) by
     unfold IntK.leftOf termsSize
     rw [if_pos (by omega)]
     omega)
    clear hsum
    go_wp2
    go_ret
    exact ⟨by rw [HR.out]; rfl, hb⟩
 ·have HR := Lib.hid (show IntK.leftOf L (termsSize xs) = -1 from if_neg (by unfold termsSize; omega))
  have hlt0 : decide ((L : Int) - (xs.length : Int) < 0) = true := decide_eq_true (by omega)
  clear hs
  go_enter Tryz.func208, Tryz.ntmps208
  go_wp2
  go_ret
  exact ⟨by rw [HR.out]; rfl, Below.refl _ _⟩

set_option maxHeartbeats 1000000 in
set_option maxRecDepth 100000 in
theorem eqTermS (q q2 : Bool) (fp gp : List Nat) (A B : Option Addr) (c d : Nat) (xs : List (Int × ByteArray)) (w : World) (hA : terms.rep q w fp [.slice A xs.length c] xs) (hB : terms.rep q2 w gp [.slice B xs.length d] xs) (hl : xs.length ≤ 1000000000) :
  Calls Tryz.prog 214 #[.slice A xs.length c, .slice B xs.length d] w fun e w' => e = .returned (.bool true) ∧ Below w.heap.size w w' := by
 have HL := Lib.hid hl
 clear hl
 have hxl : xs.length ≤ 1000000000 := by have := HL.out; omega
 go_enter Tryz.func214, Tryz.ntmps214
 go_wp2
 go_loopw [5] (fun i wr => ∃ k : Nat, k ≤ xs.length ∧ i = .int .i64 k ∧ Below w.heap.size w wr) (fun i _ => xs.length - (intOf i).toNat)
 case atStart => exact ⟨0, Nat.zero_le _, rfl, Below.refl _ _⟩
 case round =>
  obtain ⟨k, hk, rfl, hb⟩ := hrel
  by_cases hlt : k < xs.length
  ·obtain ⟨b, o, rfl, hbb, c0, c1⟩ := terms_at (Rep.below hA hb) hlt
   obtain ⟨b2, o2, rfl, hbb2, e0, e1⟩ := terms_at (Rep.below hB hb) hlt

   generalize xs[k] = x at *
   obtain ⟨z, s⟩ := x
   simp only at c0 c1 e0 e1
   have hd : Below wr.heap.size wr wr.drew := (Below.refl _ _).drew
   have EQ := Lib.hid (eqTerm z s wr.drew)
   have hi0 : (0 : Int) ≤ (k : Int) := by omega
   have hi1 : (k : Int) < (xs.length : Int) := by omega
   clear hd
   go_wp2_with fail
   go_region_law (first
    | (go_simp; go_at_call 231; refine (Calls.mono EQ.out) ?_; rintro e w1 ⟨rfl, b1⟩))
   all_goals
    have B1' := Lib.hid (hb.trans (((Below.refl wr.heap.size wr).drew.trans b1).mono hb.size))
    clear b1
    go_wp2
    go_roundw
    case rel => exact ⟨k + 1, by omega, by go_num, B1'.out⟩
    case measure => simp [intOf]; omega
  ·go_wp2
   go_ret
   exact ⟨rfl, hb⟩

def MarkedTerm (fp : List Nat) (w : World) (A : Option Addr) (c k0 : Nat) (xs : List (Int × ByteArray)) (e : Ending) (w' : World) : Prop :=
 e = .returned (.int .i64 ((k0 : Int) + szs nTerm xs)) ∧ terms.rep true w' fp [.slice A xs.length c] (mks mkTerm nTerm k0 xs) ∧ ModF fp w w'
set_option maxHeartbeats 1000000 in
set_option maxRecDepth 100000 in
theorem markTermS (fp : List Nat) (A : Option Addr) (c k0 : Nat) (xs : List (Int × ByteArray)) (w : World) (hA : terms.rep true w fp [.slice A xs.length c] xs) (hn : fp.Nodup) (hl : xs.length ≤ 1000000000) (h1 : 1 ≤ k0) (hk0 : k0 ≤ 20000000000) :
  Calls Tryz.prog 159 #[.slice A xs.length c, .int .i64 k0] w (MarkedTerm fp w A c k0 xs) := by
 by_cases h0 : xs = []
 ·subst h0
  have F := Lib.hid (show MarkedTerm fp w A c k0 [] (.returned (.int .i64 k0)) w from ⟨by simp [szs], hA, ModF.refl _ _⟩)
  clear hA
  go_enter Tryz.func159, Tryz.ntmps159
  go_wp2
  refine wp_loop_rounds 1 ?_
  rw [rounds_succ]
  go_wp2
  go_ret
  exact F.out
 ·have HL := Lib.hid hl
  have hxl : xs.length ≤ 1000000000 := by omega
  have HK := Lib.hid hk0
  have HK1 := Lib.hid h1
  have HNE := Lib.hid h0
  have HC := Lib.hid (show xs.length ≤ c by
   obtain ⟨_, _, e, h, _⟩ := hA
   injection e with e _
   injection e with _ _ e
   omega)
  have M0 := Lib.hid (marking_zero (mk := mkTerm) (sz := nTerm) k0 hA hn h0)
  clear hl hA hk0 h0 hn h1
  go_enter Tryz.func159, Tryz.ntmps159
  go_wp2
  go_loopw [1, 5] (fun x i wr => Marking term mkTerm nTerm fp w xs A k0 x i wr) (fun _ i _ => xs.length - (intOf i).toNat)
  case atStart => exact M0.out
  case round =>
   obtain ⟨k, l, rfl, rfl, hk, hl9, hl1⟩ : ∃ k l : Nat, u5 = .int .i64 k ∧ u1 = .int .i64 l ∧ k ≤ xs.length ∧ l ≤ 30000000000 ∧ 1 ≤ l := by
    obtain ⟨k, l, _, _, _, _, h1, h2, h3, h4, _⟩ := hrel
    have h5 := szs_take (sz := nTerm) xs k
    have := HL.out
    have := HK.out
    have := HK1.out
    have h6 := nTerms xs
    exact ⟨k, l, h2, h3, h1, by omega, by omega⟩
   by_cases hlt : k < xs.length
   ·obtain ⟨b, o, f, cs, rfl, hbb, hre, hnd, hbf, hcc, hff, hnext⟩ := marking_at hrel hlt
    have HNX := Lib.hid hnext
    have c0 := hcc 0 (Nat.succ_pos _)
    have c1 := hcc 1 (Nat.lt_succ_self _)
    have f0 := hff 0 (Nat.succ_pos _)
    have f1 := hff 1 (Nat.lt_succ_self _)
    simp only [show term.n = 2 from rfl, Nat.add_zero] at c0 c1 f0 f1
    have HBF := Lib.hid hbf
    obtain ⟨rfl, rfl⟩ := term_open hre
    generalize xs[k] = x at *
    obtain ⟨z, s⟩ := x
    simp only [List.getElem?_cons_zero, List.getElem?_cons_succ] at c0 c1
    have MT := Lib.hid (StrK.markText (l + 1) (by omega) (by omega) (wr.setCell ⟨b, o + k * 2, none⟩ (.int .i64 l)))
    have hcast : ((l + 1 : Nat) : Int) = (l : Int) + 1 := by omega
    rw [hcast] at MT
    clear hnext hcc hff hre hcast hrel
    go_wp2_with fail
    refine (Calls.mono MT.out) ?_
    rintro e w1 ⟨rfl, b1⟩
    have hbl : b < (wr.setCell ⟨b, o + k * 2, none⟩ (.int .i64 l)).heap.size := by simpa using hbb
    have g1 : w1.cell? ⟨b, o + k * 2 + 1, none⟩ = some (.string s) := by rw [b1.cell (p := ⟨b, o + k * 2 + 1, none⟩) hbl, World.cell?_setCell_other _ _ _ _ (by intro h; simp only [Addr.mk.injEq] at h; omega)]; exact c1
    have g2 : w1.frozen? ⟨b, o + k * 2 + 1, none⟩ = false := by rw [b1.frozen (p := ⟨b, o + k * 2 + 1, none⟩) hbl, World.frozen?_setCell]; exact f1
    have hN := HNX.out (w1.setCell ⟨b, o + k * 2 + 1, none⟩ (.string (StrK.mt (l + 1)))) [.int .i64 l, .string (StrK.mt (l + 1))] (term_close _ _ _ _)
     (((ModF.set wr (p := ⟨b, o + k * 2, none⟩) (by simp) (.int .i64 l)).trans (ModF.of_below b1)).trans (ModF.set w1 (p := ⟨b, o + k * 2 + 1, none⟩) (by simp) _))
     (fun j hj => by
      have hj : j < k * 2 ∨ k * 2 + 2 ≤ j := hj
      rw [World.cell?_setCell_other _ _ _ _ (by intro h; simp only [Addr.mk.injEq] at h; omega), b1.cell (p := ⟨b, o + j, none⟩) hbl, World.cell?_setCell_other _ _ _ _ (by intro h; simp only [Addr.mk.injEq] at h; omega)])
     (fun i hi => by
      have hi : i < 2 := hi
      rcases i with _ | _ | i
      ·show (w1.setCell ⟨b, o + k * 2 + 1, none⟩ _).cell? ⟨b, o + k * 2, none⟩ = some (.int .i64 l)
       rw [World.cell?_setCell_other _ _ _ _ (by intro h; simp only [Addr.mk.injEq] at h; omega), b1.cell (p := ⟨b, o + k * 2, none⟩) hbl, World.cell?_setCell_same _ _ _ c0]
      ·exact World.cell?_setCell_same _ _ _ g1
      ·omega)
     (fun j => by rw [World.frozen?_setCell, b1.frozen (p := ⟨b, o + j, none⟩) hbl, World.frozen?_setCell])
    have HN := Lib.hid hN
    clear hN b1 c0 c1 f0 f1 HNX
    go_wp2
    go_roundw
    case rel => exact (show Marking term mkTerm nTerm fp w xs _ k0 _ _ _ from by simpa [nTerm, Int.add_assoc] using HN.out)
    case measure => simp [intOf]; omega
   ·obtain rfl : k = xs.length := by omega
    obtain ⟨h1, h2, h3⟩ := marking_end HC.out HNE.out hrel
    have F := Lib.hid (show MarkedTerm fp w A c k0 xs (.returned (.int .i64 l)) wr from ⟨by rw [h3], h1, h2⟩)
    clear h1 h2 h3 hrel
    go_wp2
    go_ret
    exact F.out
end Mem
end Go.Proofs.YtbbllkhmenpnlaaGreat

/-
  Sums as data in memory, and slices of them: the laws' helpers.
-/
namespace Go.Proofs.YtbbllkhmenpnlaaGreat
open Go.RowKit
namespace Mem
open RowK

abbrev SumT := Int × List (Int × ByteArray)
def sum : Rep SumT := Rep.prod Rep.int terms
def sums : Rep (List SumT) := Rep.slice sum
theorem sum_open {q : Bool} {w : World} {fp : List Nat} {cs : List Value} {p : SumT} (h : sum.rep q w fp cs p) :
  ∃ A c, cs = [.int .i64 p.1, .slice A p.2.length c] ∧ p.2.length ≤ c ∧ terms.rep q w fp [.slice A p.2.length c] p.2 := by
 obtain ⟨f1, f2, c1, c2, rfl, rfl, ⟨rfl, rfl⟩, h2⟩ := h
 obtain ⟨A, c, rfl, hc, h3⟩ := h2
 exact ⟨A, c, rfl, hc, A, c, rfl, hc, h3⟩
theorem sum_close {q : Bool} {w : World} {fp : List Nat} {A : Option Addr} {n c : Nat} {z : Int} {ts : List (Int × ByteArray)} (h : terms.rep q w fp [.slice A n c] ts) : sum.rep q w fp [.int .i64 z, .slice A n c] (z, ts) :=
 ⟨[], fp, _, _, rfl, rfl, ⟨rfl, rfl⟩, h⟩
theorem sums_at {q : Bool} {w : World} {fp : List Nat} {A : Option Addr} {n c : Nat} {xs : List SumT} (h : sums.rep q w fp [.slice A n c] xs) {k : Nat} (hk : k < xs.length) :
  ∃ b o B d f, A = some ⟨b, o, none⟩ ∧ b < w.heap.size ∧ w.cell? ⟨b, o + k * 2, none⟩ = some (.int .i64 xs[k].1) ∧ w.cell? ⟨b, o + k * 2 + 1, none⟩ = some (.slice B xs[k].2.length d) ∧ terms.rep q w f [.slice B xs[k].2.length d] xs[k].2 := by
 obtain ⟨b, o, f, cs, rfl, hb, hr, hc, _⟩ := slice_at h hk
 obtain ⟨B, d, rfl, _, h2⟩ := sum_open hr
 exact ⟨b, o, B, d, f, rfl, hb, hc 0 (Nat.succ_pos _), hc 1 (Nat.lt_succ_self _), h2⟩
theorem ArgS.sum_at {w : World} {A : Option Addr} {n c : Nat} {xs : List SumT} (h : ArgS sum w A n c xs) {k : Nat} (hk : k < xs.length) :
  ∃ b o B d, A = some ⟨b, o, none⟩ ∧ b < w.heap.size ∧ w.cell? ⟨b, o + k * 2, none⟩ = some (.int .i64 xs[k].1) ∧ w.cell? ⟨b, o + k * 2 + 1, none⟩ = some (.slice B xs[k].2.length d) ∧ ArgS term w B xs[k].2.length d xs[k].2 := by
 obtain ⟨q, fp, h⟩ := h
 obtain ⟨b, o, B, d, f, h1, h2, h3, h4, h5⟩ := sums_at h hk
 exact ⟨b, o, B, d, h1, h2, h3, h4, q, f, h5⟩
def ssz (x : SumT) : Nat := termsSize x.2
def ssl (x : SumT) : Nat := x.2.length
def WfSum (x : SumT) : Prop := (Lit.int .i64 x.1).wf = true ∧ x.2.length ≤ 9223372036854775807 ∧ ∀ t ∈ x.2, WfTerm t
def sumsSize (xs : List SumT) : Nat := xs.length + szs ssz xs
theorem ssl_le (xs : List SumT) : szs ssl xs ≤ szs ssz xs := szs_le (fun x => by unfold ssl ssz termsSize; omega) xs
def mkSum (k : Nat) (x : SumT) : SumT := ((k : Int), marksT (k + 1) x.2)
def nSum (x : SumT) : Nat := 1 + szs nTerm x.2
theorem nSums : ∀ xs : List SumT, szs nSum xs = xs.length + 2 * szs ssl xs
 | [] => rfl
 | x :: xs => by
  rw [szs_cons, szs_cons, nSums xs, List.length_cons]
  unfold nSum ssl
  rw [nTerms]
  omega
theorem sumInfo : (Tryz.prog.info? 101).map (fun i => (i.zero, i.size, i.bytes)) = some (some (.agg #[.int .i64 0, .slice none 0 0]), 2, 32) := by kernel_rfl
def zeroSum : El SumT := ([], [.int .i64 0, .slice none 0 0], (0, []))
set_option maxHeartbeats 1000000 in
set_option maxRecDepth 100000 in
theorem copySum (q : Bool) (fp : List Nat) (z : Int) (A : Option Addr) (c : Nat) (xs : List (Int × ByteArray)) (w : World) (hA : terms.rep q w fp [.slice A xs.length c] xs) (hl : xs.length ≤ 1000000000) :
  Calls Tryz.prog 192 #[.agg #[.int .i64 z, .slice A xs.length c]] w fun e w' => ∃ B, e = .returned (.agg #[.int .i64 z, .slice B xs.length xs.length]) ∧ New terms w xs w' [.slice B xs.length xs.length] ∧ Below w.heap.size w w' := by
 have CP := Lib.hid (fun W (h : Below w.heap.size w W) => copyTermS q fp A c xs W (Rep.below hA h) hl)
 clear hA hl
 go_enter Tryz.func192, Tryz.ntmps192
 go_wp2_with fail
 refine (Calls.mono (CP.out _ (((Below.refl _ _).alloc (Nat.le_refl _) _ |>.alloc (by simp) _).alloc (by simp; omega) _))) ?_
 rintro e w1 ⟨A1, rfl, hN, b1⟩
 have b0 : Below w.heap.size w w1 := (((Below.refl _ _).alloc (Nat.le_refl _) _ |>.alloc (by simp) _).alloc (by simp; omega) _).trans (b1.mono (by simp; omega))
 obtain ⟨hc, hf⟩ := LinK.bcell b1
 have hz := b1.size
 simp only [World.size_alloc] at hz
 go_wp2_with fail
 refine bodyPost_ret (v := .agg #[.int .i64 z, .slice A1 xs.length xs.length]) (by simp [results, Tryz.results192, go_sem, hc]) rfl ?_
 have hm : Mod w.heap.size (w.heap.size + 3) w1 (((w1.setCell { block := w.heap.size + 1 + 1, off := 1 } (Value.slice A1 xs.length xs.length)).setCell { block := w.heap.size + 1, off := 0 } (Value.int IntKind.i64 z)).setCell { block := w.heap.size + 1, off := 1 } (Value.slice A1 xs.length xs.length)) :=
  ((Mod.set _ (by simp; omega) (by simp) _).trans (Mod.set _ (by simp) (by simp) _)).trans (Mod.set _ (by simp) (by simp) _)
 have hN2 := (hN.keepG hm (by simp)).olderG (w0 := w) (by simp; omega)
 exact ⟨A1, rfl, hN2, below_mod b0 hm (Nat.le_refl _) b0.size⟩
set_option maxHeartbeats 1000000 in
set_option maxRecDepth 100000 in
theorem sizeSum (q : Bool) (fp : List Nat) (z : Int) (A : Option Addr) (c L : Nat) (xs : List (Int × ByteArray)) (w : World) (hA : terms.rep q w fp [.slice A xs.length c] xs) (hL : L ≤ 1000000000) (hl : xs.length ≤ 9223372036854775807) (hs : ∀ x ∈ xs, WfTerm x) :
  Calls Tryz.prog 188 #[.agg #[.int .i64 z, .slice A xs.length c], .int .i64 L] w fun e w' => e = .returned (.int .i64 (IntK.leftOf L (termsSize xs))) ∧ Below w.heap.size w w' := by
 have SZ := Lib.hid (fun W (h : Below w.heap.size w W) => sizeTermS q fp A c L xs W (Rep.below hA h) hL hl hs)
 unfold IntK.leftOf at *
 have b0 : Below w.heap.size w (w.alloc (Obj.cells #[Value.int IntKind.i64 z, Value.slice A xs.length c] 212)) := (Below.refl _ _).alloc (Nat.le_refl _) _
 have B0 := Lib.hid b0
 clear hA hs b0
 by_cases h0 : termsSize xs ≤ L
 ·rw [if_pos h0] at *
  have hneg : decide ((L : Int) - (termsSize xs : Int) < 0) = false := decide_eq_false (by omega)
  go_enter Tryz.func188, Tryz.ntmps188
  go_wp2_with fail
  refine (Calls.mono (SZ.out _ B0.out)) ?_
  rintro e w1 ⟨rfl, b1⟩
  have B1 := Lib.hid (B0.out.trans (b1.mono B0.out.size))
  go_wp2
  go_ret
  exact ⟨rfl, B1.out⟩
 ·rw [if_neg h0] at *
  go_enter Tryz.func188, Tryz.ntmps188
  go_wp2_with fail
  refine (Calls.mono (SZ.out _ B0.out)) ?_
  rintro e w1 ⟨rfl, b1⟩
  have B1 := Lib.hid (B0.out.trans (b1.mono B0.out.size))
  go_wp2
  go_ret
  exact ⟨rfl, B1.out⟩
set_option maxHeartbeats 1000000 in
set_option maxRecDepth 100000 in
theorem eqSum (q q2 : Bool) (fp gp : List Nat) (z : Int) (A B : Option Addr) (c d : Nat) (xs : List (Int × ByteArray)) (w : World) (hA : terms.rep q w fp [.slice A xs.length c] xs) (hB : terms.rep q2 w gp [.slice B xs.length d] xs) (hl : xs.length ≤ 1000000000) :
  Calls Tryz.prog 196 #[.agg #[.int .i64 z, .slice A xs.length c], .agg #[.int .i64 z, .slice B xs.length d]] w fun e w' => e = .returned (.bool true) ∧ Below w.heap.size w w' := by
 have EQ := Lib.hid (fun W (h : Below w.heap.size w W) => eqTermS q q2 fp gp A B c d xs W (Rep.below hA h) (Rep.below hB h) hl)
 have b0 : Below w.heap.size w ((w.alloc (Obj.cells #[Value.int IntKind.i64 z, Value.slice A xs.length c] 101)).alloc (Obj.cells #[Value.int IntKind.i64 z, Value.slice B xs.length d] 101)) := ((Below.refl _ _).alloc (Nat.le_refl _) _).alloc (by simp) _
 have B0 := Lib.hid b0
 clear hA hB hl b0
 go_enter Tryz.func196, Tryz.ntmps196
 go_wp2_with fail
 refine (Calls.mono (EQ.out _ B0.out)) ?_
 rintro e w1 ⟨rfl, b1⟩
 have B1 := Lib.hid (B0.out.trans (b1.mono B0.out.size))
 go_wp2
 go_ret
 exact ⟨rfl, B1.out⟩
theorem run_mkSum (n : Nat) (hn : n ≤ 1000000000000) (u : World) : (Instr.makeSlice 43 (.int .i64 (n : Int)) (.int .i64 (n : Int))).run Tryz.prog u =
  .ok (.slice (some ⟨u.heap.size, 0, none⟩) n n) (u.alloc (.cells (madeCells #[.int .i64 0, .slice none 0 0] (n * 2)) 101)) := by
 obtain ⟨i0, hi, hz0, hz1, hz2⟩ := info_parts sumInfo
 have h := run_make (P := Tryz.prog) u 43 101 i0 (.agg #[.int .i64 0, .slice none 0 0]) Tryz.underlying43 hi hz0 .i64 .i64 (n : Int) (n : Int) (by omega) (Int.le_refl _) (by rw [hz2]; omega) (by omega)
 simpa [hz1, Value.cells] using h
def CopiedSumS (w : World) (xs : List (SumT)) (e : Ending) (w' : World) : Prop := ∃ A, e = .returned (.slice A xs.length xs.length) ∧ New sums w xs w' [.slice A xs.length xs.length] ∧ Below w.heap.size w w'
set_option maxHeartbeats 1000000 in
set_option maxRecDepth 100000 in
theorem copySumS (q : Bool) (fp : List Nat) (A : Option Addr) (c : Nat) (xs : List (SumT)) (w : World) (hA : sums.rep q w fp [.slice A xs.length c] xs) (hl : xs.length + szs ssl xs ≤ 1000000000) :
  Calls Tryz.prog 150 #[.slice A xs.length c] w (CopiedSumS w xs) := by
 have hxl : xs.length ≤ 1000000000 := by omega
 have hmk := run_mkSum xs.length (by omega)
 have HZ := Lib.hid (Filling.made (r := sum) (e := 101) (z := zeroSum) (ok := fun b => w.heap.size ≤ b) w (madeCells #[.int .i64 0, .slice none 0 0] (xs.length * 2)) (made_gen [.int .i64 0, .slice none 0 0] (((0, []) : SumT)) (by simp) xs.length) (Nat.le_refl _))
 have HB0 := Lib.hid ((Below.refl w.heap.size w).alloc (Nat.le_refl _) (Obj.cells (madeCells #[.int .i64 0, .slice none 0 0] (xs.length * 2)) 101))
 have HL := Lib.hid hl
 have HA := Lib.hid hA
 clear hl hA
 go_enter Tryz.func150, Tryz.ntmps150
 go_wp2
 go_loopw [4] (fun i wr => ∃ k : Nat, k ≤ xs.length ∧ i = .int .i64 k ∧ Filling sum 101 zeroSum (fun b => w.heap.size ≤ b) wr w.heap.size xs.length (xs.take k) ∧ Below w.heap.size w wr) (fun i _ => xs.length - (intOf i).toNat)
 case atStart => exact ⟨0, Nat.zero_le _, rfl, HZ.out, HB0.out⟩
 case round =>
  obtain ⟨k, hk, rfl, hS, hb⟩ := hrel
  have HS := Lib.hid hS
  have HB := Lib.hid hb
  clear hS hb
  by_cases hlt : k < xs.length
  ·obtain ⟨b, o, B, d, f, rfl, hbb, c0, c1, htr⟩ := sums_at (Rep.below HA.out HB.out) hlt
   have htl : (xs.take k).length = k := by rw [List.length_take]; omega
   have hk' : (xs.take k).length < xs.length := by rw [htl]; exact hlt
   obtain ⟨p0, q0⟩ := HS.out.cell (j := 0) (u := .int .i64 0) rfl hk' (Nat.succ_pos _) rfl
   obtain ⟨p1, q1⟩ := HS.out.cell (j := 1) (u := .slice none 0 0) rfl hk' (Nat.lt_succ_self _) rfl
   have p0 : wr.cell? ⟨w.heap.size, (xs.take k).length * 2, none⟩ = some (.int .i64 0) := p0
   have p1 : wr.cell? ⟨w.heap.size, (xs.take k).length * 2 + 1, none⟩ = some (.slice none 0 0) := p1
   have q0 : wr.frozen? ⟨w.heap.size, (xs.take k).length * 2, none⟩ = false := q0
   have q1 : wr.frozen? ⟨w.heap.size, (xs.take k).length * 2 + 1, none⟩ = false := q1
   rw [htl] at p0 p1 q0 q1
   have hz := HS.out.lt
   have HT := Lib.hid (take_snoc hlt)
   have HTL := Lib.hid htl
   have hs9 : xs[k].2.length ≤ 1000000000 := by
    have := HL.out
    have := szs_mem (sz := ssl) (List.getElem_mem hlt)
    simp only [ssl] at this
    omega
   clear htl hk'
   generalize xs[k] = x at *
   obtain ⟨z, ts⟩ := x
   simp only at c0 c1 htr
   have CP := Lib.hid (copySum _ f z B d ts wr htr hs9)
   have hi0 : (0 : Int) ≤ (k : Int) := by omega
   have hi1 : (k : Int) < (xs.length : Int) := by omega
   go_wp2_with fail
   refine (Calls.mono CP.out) ?_
   rintro e w1 ⟨G, rfl, ⟨fG, g1, g2, g3⟩, b1⟩
   have HW := Lib.hid b1
   have hS2 := Filling.snoc (m := wr.heap.size) HS.out rfl (by rw [HTL.out]; exact hlt) b1 (Nat.le_refl _) (sum_close (z := z) g1) g2 g3 (fun b hb => Nat.le_trans HB.out.size hb)
   rw [HTL.out, ← HT.out] at hS2
   have HS2 := Lib.hid (show Filling sum 101 zeroSum (fun b => w.heap.size ≤ b) ((w1.setCell ⟨w.heap.size, k * 2, none⟩ (.int .i64 z)).setCell ⟨w.heap.size, k * 2 + 1, none⟩ (.slice G ts.length ts.length)) w.heap.size xs.length (xs.take (k + 1)) from hS2)
   have HB2 := Lib.hid (((HB.out.trans (b1.mono HB.out.size)).setCell (p := ⟨w.heap.size, k * 2, none⟩) (Nat.le_refl _) (.int .i64 z)).setCell (p := ⟨w.heap.size, k * 2 + 1, none⟩) (Nat.le_refl _) (.slice G ts.length ts.length))
   have p0' := (b1.cell (p := ⟨w.heap.size, k * 2, none⟩) hz).trans p0
   have p1' := (b1.cell (p := ⟨w.heap.size, k * 2 + 1, none⟩) hz).trans p1
   have q0' := (b1.frozen (p := ⟨w.heap.size, k * 2, none⟩) hz).trans q0
   have q1' := (b1.frozen (p := ⟨w.heap.size, k * 2 + 1, none⟩) hz).trans q1
   clear hS2 b1 p0 p1 q0 q1 c0 c1
   go_wp2
   go_roundw
   case rel => exact ⟨k + 1, by omega, by go_num, HS2.out, HB2.out⟩
   case measure => simp [intOf]; omega
  ·obtain rfl : k = xs.length := by omega
   have hS := HS.out
   rw [List.take_length] at hS
   obtain ⟨A2, c2, fp2, h1, h2, h3, h4⟩ := (hS.done (by unfold maxLen; have := HL.out; omega)).rep (Nat.succ_pos _)
   injection h1 with h1 _ h5
   subst h1; subst h5
   have HN := Lib.hid (show New sums w xs wr [.slice (some ⟨w.heap.size, 0, none⟩) xs.length xs.length] from ⟨fp2, h2, h3, h4⟩)
   clear hS HS h2 h3 h4
   go_wp2
   go_ret
   exact ⟨_, rfl, HN.out, HB.out⟩

def SzSum (w : World) (xs : List (SumT)) (m : Nat) (x i : Value) (wr : World) : Prop :=
 ∃ k l : Nat, k ≤ xs.length ∧ i = .int .i64 k ∧ x = .int .i64 l ∧ l + szs ssz (xs.take k) + xs.length = m ∧ Below w.heap.size w wr
set_option maxHeartbeats 1000000 in
set_option maxRecDepth 100000 in
theorem sizeSumS (q : Bool) (fp : List Nat) (A : Option Addr) (c L : Nat) (xs : List (SumT)) (w : World) (hA : sums.rep q w fp [.slice A xs.length c] xs) (hL : L ≤ 1000000000) (hl : xs.length ≤ 9223372036854775807) (hs : ∀ x ∈ xs, WfSum x) :
  Calls Tryz.prog 145 #[.slice A xs.length c, .int .i64 L] w fun e w' => e = .returned (.int .i64 (IntK.leftOf L (sumsSize xs))) ∧ Below w.heap.size w w' := by
 have HS := Lib.hid hs
 by_cases h0 : xs.length ≤ L
 ·have hlt0 : decide ((L : Int) - (xs.length : Int) < 0) = false := decide_eq_false (by omega)
  have hx9 : xs.length ≤ 1000000000 := by omega
  clear hs
  go_enter Tryz.func145, Tryz.ntmps145
  go_wp2
  go_loopw [1, 5] (fun x i wr => SzSum w xs L x i wr) (fun _ i _ => xs.length - (intOf i).toNat)
  case atStart => exact ⟨0, L - xs.length, Nat.zero_le _, rfl, congrArg (Value.int .i64) (by omega), by simp [szs]; omega, Below.refl _ _⟩
  case round =>
   obtain ⟨k, l, hk, rfl, rfl, hsum, hb⟩ := hrel
   by_cases hlt : k < xs.length
   ·obtain ⟨b, o, B, d, f, rfl, hbb, c0, c1, htr⟩ := sums_at (Rep.below hA hb) hlt
    have hxs := HS.out _ (List.getElem_mem hlt)
    have hts := szs_step (sz := ssz) hlt
    have hle := szs_take (sz := ssz) xs (k + 1)
    generalize xs[k] = x at *
    obtain ⟨z, ts⟩ := x
    simp only [ssz] at c0 c1 hxs hts htr
    have SZ := Lib.hid (sizeSum _ f z B d l ts wr htr (by omega) hxs.2.1 hxs.2.2)
    have HT := Lib.hid hts
    have HE := Lib.hid hle
    have HM := Lib.hid hsum
    unfold IntK.leftOf at SZ
    clear hts hle hsum
    by_cases hc : termsSize ts ≤ l
    ·rw [if_pos hc] at SZ
     obtain ⟨l', rfl⟩ : ∃ l', l = termsSize ts + l' := ⟨l - termsSize ts, by omega⟩
     rw [show ((termsSize ts + l' : Nat) : Int) - ((termsSize ts : Nat) : Int) = (l' : Int) by omega] at SZ
     have hl0 : decide ((l' : Int) < 0) = false := decide_eq_false (by omega)
     clear hc
     go_wp2_with fail
     refine (Calls.mono SZ.out) ?_
     rintro e w1 ⟨rfl, b1⟩
     have B1 := Lib.hid (hb.trans (b1.mono hb.size))
     clear b1
     go_wp2
     go_roundw
     case rel => exact ⟨k + 1, l', by omega, by go_num, rfl, by have := HM.out; have := HT.out; omega, B1.out⟩
     case measure => simp [intOf]; omega
    ·rw [if_neg hc] at SZ
     have HR := Lib.hid (show IntK.leftOf L (sumsSize xs) = -1 from if_neg (by unfold sumsSize; have := HM.out; have := HT.out; have := HE.out; omega))
     clear hc
     go_wp2_with fail
     refine (Calls.mono SZ.out) ?_
     rintro e w1 ⟨rfl, b1⟩
     have B1 := Lib.hid (hb.trans (b1.mono hb.size))
     clear b1
     go_wp2
     go_ret
     exact ⟨by rw [HR.out]; rfl, B1.out⟩
   ·obtain rfl : k = xs.length := by omega
    rw [List.take_length] at hsum
    have HR := Lib.hid (show IntK.leftOf L (sumsSize xs) = (l : Int) by
     unfold IntK.leftOf sumsSize
     rw [if_pos (by omega)]
     omega)
    clear hsum
    go_wp2
    go_ret
    exact ⟨by rw [HR.out]; rfl, hb⟩
 ·have HR := Lib.hid (show IntK.leftOf L (sumsSize xs) = -1 from if_neg (by unfold sumsSize; omega))
  have hlt0 : decide ((L : Int) - (xs.length : Int) < 0) = true := decide_eq_true (by omega)
  clear hs
  go_enter Tryz.func145, Tryz.ntmps145
  go_wp2
  go_ret
  exact ⟨by rw [HR.out]; rfl, Below.refl _ _⟩

set_option maxHeartbeats 1000000 in
set_option maxRecDepth 100000 in
theorem eqSumS (q q2 : Bool) (fp gp : List Nat) (A B : Option Addr) (c d : Nat) (xs : List (SumT)) (w : World) (hA : sums.rep q w fp [.slice A xs.length c] xs) (hB : sums.rep q2 w gp [.slice B xs.length d] xs) (hl : xs.length + szs ssl xs ≤ 1000000000) :
  Calls Tryz.prog 155 #[.slice A xs.length c, .slice B xs.length d] w fun e w' => e = .returned (.bool true) ∧ Below w.heap.size w w' := by
 have HL := Lib.hid hl
 clear hl
 have hxl : xs.length ≤ 1000000000 := by have := HL.out; omega
 go_enter Tryz.func155, Tryz.ntmps155
 go_wp2
 go_loopw [5] (fun i wr => ∃ k : Nat, k ≤ xs.length ∧ i = .int .i64 k ∧ Below w.heap.size w wr) (fun i _ => xs.length - (intOf i).toNat)
 case atStart => exact ⟨0, Nat.zero_le _, rfl, Below.refl _ _⟩
 case round =>
  obtain ⟨k, hk, rfl, hb⟩ := hrel
  by_cases hlt : k < xs.length
  ·obtain ⟨b, o, B, d, f, rfl, hbb, c0, c1, htr⟩ := sums_at (Rep.below hA hb) hlt
   obtain ⟨b2, o2, B2, d2, f2, rfl, hbb2, e0, e1, hts2⟩ := sums_at (Rep.below hB hb) hlt
   have hs9 : xs[k].2.length ≤ 1000000000 := by
    have := HL.out
    have := szs_mem (sz := ssl) (List.getElem_mem hlt)
    simp only [ssl] at this
    omega
   generalize xs[k] = x at *
   obtain ⟨z, ts⟩ := x
   simp only at c0 c1 e0 e1 htr hts2
   have hd : Below wr.heap.size wr wr.drew := (Below.refl _ _).drew
   have EQ := Lib.hid (eqSum _ _ f f2 z B B2 d d2 ts wr.drew (Rep.below htr hd) (Rep.below hts2 hd) hs9)
   have hi0 : (0 : Int) ≤ (k : Int) := by omega
   have hi1 : (k : Int) < (xs.length : Int) := by omega
   clear hd
   go_wp2_with fail
   go_region_law (first
    | (go_simp; go_at_call 196; refine (Calls.mono EQ.out) ?_; rintro e w1 ⟨rfl, b1⟩))
   all_goals
    have B1' := Lib.hid (hb.trans (((Below.refl wr.heap.size wr).drew.trans b1).mono hb.size))
    clear b1
    go_wp2
    go_roundw
    case rel => exact ⟨k + 1, by omega, by go_num, B1'.out⟩
    case measure => simp [intOf]; omega
  ·go_wp2
   go_ret
   exact ⟨rfl, hb⟩

def MarkedSum (fp : List Nat) (w : World) (A : Option Addr) (c k0 : Nat) (xs : List (SumT)) (e : Ending) (w' : World) : Prop :=
 e = .returned (.int .i64 ((k0 : Int) + szs nSum xs)) ∧ sums.rep true w' fp [.slice A xs.length c] (mks mkSum nSum k0 xs) ∧ ModF fp w w'
set_option maxHeartbeats 1000000 in
set_option maxRecDepth 100000 in
theorem markSumS (fp : List Nat) (A : Option Addr) (c k0 : Nat) (xs : List (SumT)) (w : World) (hA : sums.rep true w fp [.slice A xs.length c] xs) (hn : fp.Nodup) (hl : xs.length + szs ssl xs ≤ 1000000000) (h1 : 1 ≤ k0) (hk0 : k0 ≤ 10000000000) :
  Calls Tryz.prog 113 #[.slice A xs.length c, .int .i64 k0] w (MarkedSum fp w A c k0 xs) := by
 by_cases h0 : xs = []
 ·subst h0
  have F := Lib.hid (show MarkedSum fp w A c k0 [] (.returned (.int .i64 k0)) w from ⟨by simp [szs], hA, ModF.refl _ _⟩)
  clear hA
  go_enter Tryz.func113, Tryz.ntmps113
  go_wp2
  refine wp_loop_rounds 1 ?_
  rw [rounds_succ]
  go_wp2
  go_ret
  exact F.out
 ·have HL := Lib.hid hl
  have hxl : xs.length ≤ 1000000000 := by omega
  have HK := Lib.hid hk0
  have HK1 := Lib.hid h1
  have HNE := Lib.hid h0
  have HC := Lib.hid (show xs.length ≤ c by
   obtain ⟨_, _, e, h, _⟩ := hA
   injection e with e _
   injection e with _ _ e
   omega)
  have M0 := Lib.hid (marking_zero (mk := mkSum) (sz := nSum) k0 hA hn h0)
  clear hl hA hk0 h0 hn h1
  go_enter Tryz.func113, Tryz.ntmps113
  go_wp2
  go_loopw [1, 5] (fun x i wr => Marking sum mkSum nSum fp w xs A k0 x i wr) (fun _ i _ => xs.length - (intOf i).toNat)
  case atStart => exact M0.out
  case round =>
   obtain ⟨k, l, rfl, rfl, hk, hl9, hl1⟩ : ∃ k l : Nat, u5 = .int .i64 k ∧ u1 = .int .i64 l ∧ k ≤ xs.length ∧ l ≤ 15000000000 ∧ 1 ≤ l := by
    obtain ⟨k, l, _, _, _, _, h1, h2, h3, h4, _⟩ := hrel
    have h5 := szs_take (sz := nSum) xs k
    have := HL.out
    have := HK.out
    have := HK1.out
    have h6 := nSums xs
    exact ⟨k, l, h2, h3, h1, by omega, by omega⟩
   by_cases hlt : k < xs.length
   ·obtain ⟨b, o, f, cs, rfl, hbb, hre, hnd, hbf, hcc, hff, hnext⟩ := marking_at hrel hlt
    have HNX := Lib.hid hnext
    have c0 := hcc 0 (Nat.succ_pos _)
    have c1 := hcc 1 (Nat.lt_succ_self _)
    have f0 := hff 0 (Nat.succ_pos _)
    have f1 := hff 1 (Nat.lt_succ_self _)
    simp only [show sum.n = 2 from rfl, Nat.add_zero] at c0 c1 f0 f1
    have HBF := Lib.hid hbf
    obtain ⟨B, d, rfl, hcd, hts⟩ := sum_open hre
    have hx9 : xs[k].2.length ≤ 1000000000 := by
     have := HL.out
     have := szs_mem (sz := ssl) (List.getElem_mem hlt)
     simp only [ssl] at this
     omega
    generalize xs[k] = x at *
    obtain ⟨z, ts⟩ := x
    simp only [List.getElem?_cons_zero, List.getElem?_cons_succ] at c0 c1 hts hx9 hcd
    have ms : ModF [b] wr (wr.setCell ⟨b, o + k * 2, none⟩ (.int .i64 l)) := ModF.set wr (p := ⟨b, o + k * 2, none⟩) (by simp) (.int .i64 l)
    have MS := Lib.hid ms
    have MT := Lib.hid (markTermS f B d (l + 1) ts _ (Rep.keepF hts ms (fun i hi h => by rw [List.mem_singleton.1 h] at hi; exact hbf hi)) hnd hx9 (by omega) (by omega))
    have hcast : ((l + 1 : Nat) : Int) = (l : Int) + 1 := by omega
    rw [hcast] at MT
    clear hnext hcc hff hre hcast hrel hts ms hbf hnd
    go_wp2_with fail
    refine (Calls.mono MT.out) ?_
    rintro e w1 ⟨rfl, r1, m1⟩
    have hbl : b < (wr.setCell ⟨b, o + k * 2, none⟩ (.int .i64 l)).heap.size := by simpa using hbb
    have hblk := m1.block b hbl HBF.out
    have hcl : ∀ j, w1.cell? ⟨b, j, none⟩ = (wr.setCell ⟨b, o + k * 2, none⟩ (.int .i64 l)).cell? ⟨b, j, none⟩ := fun j => World.cell?_of_block hblk
    have hfl : ∀ j, w1.frozen? ⟨b, j, none⟩ = (wr.setCell ⟨b, o + k * 2, none⟩ (.int .i64 l)).frozen? ⟨b, j, none⟩ := fun j => World.frozen?_of_block hblk
    have hN := HNX.out w1 [.int .i64 l, .slice B ts.length d] (sum_close r1) ((MS.out.wider (by simp)).trans (m1.wider (fun i hi => List.mem_cons_of_mem _ hi)))
     (fun j hj => by
      have hj : j < k * 2 ∨ k * 2 + 2 ≤ j := hj
      rw [hcl, World.cell?_setCell_other _ _ _ _ (by intro h; simp only [Addr.mk.injEq] at h; omega)])
     (fun i hi => by
      have hi : i < 2 := hi
      rcases i with _ | _ | i
      ·show w1.cell? ⟨b, o + k * 2, none⟩ = some (.int .i64 l)
       rw [hcl, World.cell?_setCell_same _ _ _ c0]
      ·show w1.cell? ⟨b, o + k * 2 + 1, none⟩ = some (.slice B ts.length d)
       rw [hcl, World.cell?_setCell_other _ _ _ _ (by intro h; simp only [Addr.mk.injEq] at h; omega)]
       exact c1
      ·omega)
     (fun j => by rw [hfl, World.frozen?_setCell])
    have HN := Lib.hid hN
    clear hN r1 m1 c0 c1 f0 f1 HNX hblk hcl hfl
    go_wp2
    go_roundw
    case rel => exact (show Marking sum mkSum nSum fp w xs _ k0 _ _ _ from by simpa [nSum, Int.add_assoc] using HN.out)
    case measure => simp [intOf]; omega
   ·obtain rfl : k = xs.length := by omega
    obtain ⟨h1, h2, h3⟩ := marking_end HC.out HNE.out hrel
    have F := Lib.hid (show MarkedSum fp w A c k0 xs (.returned (.int .i64 l)) wr from ⟨by rw [h3], h1, h2⟩)
    clear h1 h2 h3 hrel
    go_wp2
    go_ret
    exact F.out
end Mem
end Go.Proofs.YtbbllkhmenpnlaaGreat
