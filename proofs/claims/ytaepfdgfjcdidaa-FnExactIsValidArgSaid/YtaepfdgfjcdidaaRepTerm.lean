import Derived.Test.YtaepfdgfjcdidaaRepGen
import Derived.Test.YtaepfdgfjcdidaaStrMark
import Derived.Test.YtaepfdgfjcdidaaLinK
import Derived.Deep.RegionLaw
/-
  Terms as data in memory, and slices of them: the laws' helpers.
-/
namespace Go.Proofs.Ytaepfdgfjcdidaa
open Go.RowKit
namespace Mem
open RowK

def term : Rep (Int × ByteArray) := Rep.prod Rep.int Rep.str
def terms : Rep (List (Int × ByteArray)) := Rep.slice term
theorem term_open {q : Bool} {w : World} {fp : List Nat} {cs : List Value} {p : Int × ByteArray} (h : term.rep q w fp cs p) : fp = [] ∧ cs = [.int .i64 p.1, .string p.2] := by
  obtain ⟨f1, f2, c1, c2, rfl, rfl, ⟨rfl, rfl⟩, ⟨rfl, rfl⟩⟩ := h
  exact ⟨rfl, rfl⟩
theorem term_close (q : Bool) (w : World) (z : Int) (s : ByteArray) : term.rep q w [] [.int .i64 z, .string s] (z, s) := ⟨[], [], _, _, rfl, rfl, ⟨rfl, rfl⟩, ⟨rfl, rfl⟩⟩
theorem terms_at {q : Bool} {w : World} {fp : List Nat} {A : Option Addr} {n c : Nat} {xs : List (Int × ByteArray)} (h : terms.rep q w fp [.slice A n c] xs) {k : Nat} (hk : k < xs.length) :
    ∃ b o, A = some ⟨b, o, none⟩ ∧ b < w.heap.size ∧ w.cell? ⟨b, o + k * 2, none⟩ = some (.int .i64 xs[k].1) ∧ w.cell? ⟨b, o + k * 2 + 1, none⟩ = some (.string xs[k].2) := by
  obtain ⟨b, o, f, cs, rfl, hb, hr, hc, _⟩ := slice_at h hk
  obtain ⟨_, rfl⟩ := term_open hr
  exact ⟨b, o, rfl, hb, hc 0 (Nat.succ_pos _), hc 1 (Nat.lt_succ_self _)⟩
theorem ArgS.term_at {w : World} {A : Option Addr} {n c : Nat} {xs : List (Int × ByteArray)} (h : ArgS term w A n c xs) {k : Nat} (hk : k < xs.length) :
    ∃ b o, A = some ⟨b, o, none⟩ ∧ b < w.heap.size ∧ w.cell? ⟨b, o + k * 2, none⟩ = some (.int .i64 xs[k].1) ∧ w.cell? ⟨b, o + k * 2 + 1, none⟩ = some (.string xs[k].2) := by
  obtain ⟨q, fp, h⟩ := h
  exact terms_at h hk
def tsz (x : Int × ByteArray) : Nat := x.2.size
def WfTerm (x : Int × ByteArray) : Prop := (Lit.int .i64 x.1).wf = true ∧ x.2.size ≤ 9223372036854775807
def termsSize (xs : List (Int × ByteArray)) : Nat := xs.length + szs tsz xs
def mkTerm (k : Nat) (_ : Int × ByteArray) : Int × ByteArray := ((k : Int), StrK.mt (k + 1))
def nTerm (_ : Int × ByteArray) : Nat := 2
abbrev marksT (k : Nat) (xs : List (Int × ByteArray)) : List (Int × ByteArray) := mks mkTerm nTerm k xs
theorem nTerms : ∀ xs : List (Int × ByteArray), szs nTerm xs = 2 * xs.length
  | [] => rfl
  | x :: xs => by rw [szs_cons, nTerms xs, List.length_cons]; unfold nTerm; omega
theorem termInfo9 : (Try.prog.info? 52).map (fun i => (i.zero, i.size, i.bytes)) = some (some (.agg #[.int .i64 0, .string ByteArray.empty]), 2, 24) := by kernel_rfl
def zeroTerm : El (Int × ByteArray) := ([], [.int .i64 0, .string ByteArray.empty], (0, ByteArray.empty))

set_option maxHeartbeats 1000000 in
set_option maxRecDepth 100000 in
theorem copyTerm (z : Int) (s : ByteArray) (w : World) :
    Calls Try.prog 49 #[.agg #[.int .i64 z, .string s]] w fun e w' => e = .returned (.agg #[.int .i64 z, .string s]) ∧ Below w.heap.size w w' := by
  have F : ∀ u v : Value, Below w.heap.size w (((((w.alloc (Obj.cells #[Value.int IntKind.i64 z, Value.string s] 72)).alloc (Obj.cells #[Value.int IntKind.i64 0, Value.string ByteArray.empty] 52)).alloc (Obj.cells #[Value.int IntKind.i64 z, Value.string ByteArray.empty] 52)))) := fun _ _ => (((Below.refl _ _).alloc (Nat.le_refl _) _).alloc (by simp) _).alloc (by simp; omega) _
  go_enter Try.func49, Try.ntmps49
  go_wp2
  refine bodyPost_ret (v := .agg #[.int .i64 z, .string s]) (by simp [results, Try.results49, go_sem]) rfl ⟨rfl, ?_⟩
  repeat first
    | exact Below.refl _ _
    | refine Below.setCell ?_ (by simp <;> omega) _
    | refine Below.alloc ?_ (by simp <;> omega) _
set_option maxHeartbeats 1000000 in
set_option maxRecDepth 100000 in
theorem sizeTerm (z : Int) (s : ByteArray) (L : Nat) (w : World) (hL : L ≤ 1000000000) (hs : s.size ≤ 9223372036854775807) :
    Calls Try.prog 45 #[.agg #[.int .i64 z, .string s], .int .i64 L] w fun e w' => e = .returned (.int .i64 (IntK.leftOf L s.size)) ∧ Below w.heap.size w w' := by
  unfold IntK.leftOf
  by_cases h0 : s.size ≤ L
  · rw [if_pos h0]
    have hn : decide ((L : Int) - (s.size : Int) < 0) = false := decide_eq_false (by omega)
    go_enter Try.func45, Try.ntmps45
    go_wp2
    go_ret
    exact ⟨rfl, (Below.refl _ _).alloc (Nat.le_refl _) _⟩
  · rw [if_neg h0]
    have hn : decide ((L : Int) - (s.size : Int) < 0) = true := decide_eq_true (by omega)
    go_enter Try.func45, Try.ntmps45
    go_wp2
    go_ret
    exact ⟨rfl, (Below.refl _ _).alloc (Nat.le_refl _) _⟩
set_option maxHeartbeats 1000000 in
set_option maxRecDepth 100000 in
theorem eqTerm (z : Int) (s : ByteArray) (w : World) :
    Calls Try.prog 51 #[.agg #[.int .i64 z, .string s], .agg #[.int .i64 z, .string s]] w fun e w' => e = .returned (.bool true) ∧ Below w.heap.size w w' := by
  have B0 := Lib.hid (((Below.refl w.heap.size w).alloc (Nat.le_refl _) (Obj.cells #[Value.int IntKind.i64 z, Value.string s] 52)).alloc (by simp) (Obj.cells #[Value.int IntKind.i64 z, Value.string s] 52))
  go_enter Try.func51, Try.ntmps51
  go_wp2
  go_ret
  exact ⟨rfl, B0.out⟩

theorem run_mkTerm (n : Nat) (hn : n ≤ 1000000000000) (u : World) : (Instr.makeSlice 27 (.int .i64 (n : Int)) (.int .i64 (n : Int))).run Try.prog u =
    .ok (.slice (some ⟨u.heap.size, 0, none⟩) n n) (u.alloc (.cells (madeCells #[.int .i64 0, .string ByteArray.empty] (n * 2)) 52)) := by
  obtain ⟨i0, hi, hz0, hz1, hz2⟩ := info_parts termInfo9
  have h := run_make (P := Try.prog) u 27 52 i0 (.agg #[.int .i64 0, .string ByteArray.empty]) Try.underlying27 hi hz0 .i64 .i64 (n : Int) (n : Int) (by omega) (Int.le_refl _) (by rw [hz2]; omega) (by omega)
  simpa [hz1, Value.cells] using h
/-- What toTermS hands back. -/
def CopiedTermS (w : World) (xs : List (Int × ByteArray)) (e : Ending) (w' : World) : Prop := ∃ A, e = .returned (.slice A xs.length xs.length) ∧ New terms w xs w' [.slice A xs.length xs.length] ∧ Below w.heap.size w w'
set_option maxHeartbeats 1000000 in
set_option maxRecDepth 100000 in
theorem copyTermS (q : Bool) (fp : List Nat) (A : Option Addr) (c : Nat) (xs : List (Int × ByteArray)) (w : World) (hA : terms.rep q w fp [.slice A xs.length c] xs) (hl : xs.length ≤ 1000000000) :
    Calls Try.prog 29 #[.slice A xs.length c] w (CopiedTermS w xs) := by
  have hxl : xs.length ≤ 1000000000 := by omega
  have hmk := run_mkTerm xs.length (by omega)
  have HZ := Lib.hid (Filling.made (r := term) (e := 52) (z := zeroTerm) (ok := fun b => w.heap.size ≤ b) w (madeCells #[.int .i64 0, .string ByteArray.empty] (xs.length * 2)) (made_gen [.int .i64 0, .string ByteArray.empty] ((0, ByteArray.empty)) (by simp) xs.length) (Nat.le_refl _))
  have HB0 := Lib.hid ((Below.refl w.heap.size w).alloc (Nat.le_refl _) (Obj.cells (madeCells #[.int .i64 0, .string ByteArray.empty] (xs.length * 2)) 52))
  have HL := Lib.hid hl
  have HA := Lib.hid hA
  clear hl hA
  go_enter Try.func29, Try.ntmps29
  go_wp2
  go_loopw [4] (fun i wr => ∃ k : Nat, k ≤ xs.length ∧ i = .int .i64 k ∧ Filling term 52 zeroTerm (fun b => w.heap.size ≤ b) wr w.heap.size xs.length (xs.take k) ∧ Below w.heap.size w wr) (fun i _ => xs.length - (intOf i).toNat)
  case atStart => exact ⟨0, Nat.zero_le _, rfl, HZ.out, HB0.out⟩
  case round =>
    obtain ⟨k, hk, rfl, hS, hb⟩ := hrel
    have HS := Lib.hid hS
    have HB := Lib.hid hb
    clear hS hb
    by_cases hlt : k < xs.length
    · obtain ⟨b, o, rfl, hbb, c0, c1⟩ := terms_at (Rep.below HA.out HB.out) hlt
      have htl : (xs.take k).length = k := by rw [List.length_take]; omega
      have hk' : (xs.take k).length < xs.length := by rw [htl]; exact hlt
      obtain ⟨p0, q0⟩ := HS.out.cell (j := 0) (u := .int .i64 0) rfl hk' (Nat.succ_pos _) rfl
      obtain ⟨p1, q1⟩ := HS.out.cell (j := 1) (u := .string ByteArray.empty) rfl hk' (Nat.lt_succ_self _) rfl
      have p0 : wr.cell? ⟨w.heap.size, (xs.take k).length * 2, none⟩ = some (.int .i64 0) := p0
      have p1 : wr.cell? ⟨w.heap.size, (xs.take k).length * 2 + 1, none⟩ = some (.string ByteArray.empty) := p1
      have q0 : wr.frozen? ⟨w.heap.size, (xs.take k).length * 2, none⟩ = false := q0
      have q1 : wr.frozen? ⟨w.heap.size, (xs.take k).length * 2 + 1, none⟩ = false := q1
      rw [htl] at p0 p1 q0 q1
      have hz := HS.out.lt
      have HT := Lib.hid (take_snoc hlt)
      have HTL := Lib.hid htl

      clear htl hk'
      generalize xs[k] = x at *
      obtain ⟨z, s⟩ := x
      simp only at c0 c1
      have CP := Lib.hid (copyTerm z s wr)
      have hi0 : (0 : Int) ≤ (k : Int) := by omega
      have hi1 : (k : Int) < (xs.length : Int) := by omega
      go_wp2_with fail
      refine (Calls.mono CP.out) ?_
      rintro e w1 ⟨rfl, b1⟩
      have HW := Lib.hid b1
      have hS2 := Filling.snoc (m := wr.heap.size) HS.out rfl (by rw [HTL.out]; exact hlt) b1 (Nat.le_refl _) (term_close true _ z s) List.nodup_nil (fun b hb => by cases hb) (fun b hb => Nat.le_trans HB.out.size hb)
      rw [HTL.out, ← HT.out] at hS2
      have HS2 := Lib.hid (show Filling term 52 zeroTerm (fun b => w.heap.size ≤ b) ((w1.setCell ⟨w.heap.size, k * 2, none⟩ (.int .i64 z)).setCell ⟨w.heap.size, k * 2 + 1, none⟩ (.string s)) w.heap.size xs.length (xs.take (k + 1)) from hS2)
      have HB2 := Lib.hid (((HB.out.trans (b1.mono HB.out.size)).setCell (p := ⟨w.heap.size, k * 2, none⟩) (Nat.le_refl _) (.int .i64 z)).setCell (p := ⟨w.heap.size, k * 2 + 1, none⟩) (Nat.le_refl _) (.string s))
      have p0' := (b1.cell (p := ⟨w.heap.size, k * 2, none⟩) hz).trans p0
      have p1' := (b1.cell (p := ⟨w.heap.size, k * 2 + 1, none⟩) hz).trans p1
      have q0' := (b1.frozen (p := ⟨w.heap.size, k * 2, none⟩) hz).trans q0
      have q1' := (b1.frozen (p := ⟨w.heap.size, k * 2 + 1, none⟩) hz).trans q1
      clear hS2 b1 p0 p1 q0 q1 c0 c1
      go_wp2
      go_roundw
      case rel => exact ⟨k + 1, by omega, by go_num, HS2.out, HB2.out⟩
      case measure => simp [intOf]; omega
    · obtain rfl : k = xs.length := by omega
      have hS := HS.out
      rw [List.take_length] at hS
      obtain ⟨A2, c2, fp2, h1, h2, h3, h4⟩ := (hS.done (by unfold maxLen; have := HL.out; omega)).rep (Nat.succ_pos _)
      injection h1 with h1 _ h5
      subst h1; subst h5
      have HN := Lib.hid (show New terms w xs wr [.slice (some ⟨w.heap.size, 0, none⟩) xs.length xs.length] from ⟨fp2, h2, h3, h4⟩)
      clear hS HS h2 h3 h4
      go_wp2
      go_ret
      exact ⟨_, rfl, HN.out, HB.out⟩

def SzTerm (w : World) (xs : List (Int × ByteArray)) (m : Nat) (x i : Value) (wr : World) : Prop :=
  ∃ k l : Nat, k ≤ xs.length ∧ i = .int .i64 k ∧ x = .int .i64 l ∧ l + szs tsz (xs.take k) + xs.length = m ∧ Below w.heap.size w wr
set_option maxHeartbeats 1000000 in
set_option maxRecDepth 100000 in
theorem sizeTermS (q : Bool) (fp : List Nat) (A : Option Addr) (c L : Nat) (xs : List (Int × ByteArray)) (w : World) (hA : terms.rep q w fp [.slice A xs.length c] xs) (hL : L ≤ 1000000000) (hl : xs.length ≤ 9223372036854775807) (hs : ∀ x ∈ xs, WfTerm x) :
    Calls Try.prog 25 #[.slice A xs.length c, .int .i64 L] w fun e w' => e = .returned (.int .i64 (IntK.leftOf L (termsSize xs))) ∧ Below w.heap.size w w' := by
  have HS := Lib.hid hs
  by_cases h0 : xs.length ≤ L
  · have hlt0 : decide ((L : Int) - (xs.length : Int) < 0) = false := decide_eq_false (by omega)
    have hx9 : xs.length ≤ 1000000000 := by omega
    clear hs
    go_enter Try.func25, Try.ntmps25
    go_wp2
    go_loopw [1, 5] (fun x i wr => SzTerm w xs L x i wr) (fun _ i _ => xs.length - (intOf i).toNat)
    case atStart => exact ⟨0, L - xs.length, Nat.zero_le _, rfl, congrArg (Value.int .i64) (by omega), by simp [szs]; omega, Below.refl _ _⟩
    case round =>
      obtain ⟨k, l, hk, rfl, rfl, hsum, hb⟩ := hrel
      by_cases hlt : k < xs.length
      · obtain ⟨b, o, rfl, hbb, c0, c1⟩ := terms_at (Rep.below hA hb) hlt
        have hxs := HS.out _ (List.getElem_mem hlt)
        have hts := szs_step (sz := tsz) hlt
        have hle := szs_take (sz := tsz) xs (k + 1)
        generalize xs[k] = x at *
        obtain ⟨z, s⟩ := x
        simp only [tsz] at c0 c1 hxs hts
        have SZ := Lib.hid (sizeTerm z s l wr (by omega) hxs.2)
        have HT := Lib.hid hts
        have HE := Lib.hid hle
        have HM := Lib.hid hsum
        unfold IntK.leftOf at SZ
        clear hts hle hsum
        by_cases hc : s.size ≤ l
        · rw [if_pos hc] at SZ
          obtain ⟨l', rfl⟩ : ∃ l', l = s.size + l' := ⟨l - s.size, by omega⟩
          rw [show ((s.size + l' : Nat) : Int) - ((s.size : Nat) : Int) = (l' : Int) by omega] at SZ
          have hl0 : decide ((l' : Int) < 0) = false := decide_eq_false (by omega)
          clear hc
          go_wp2_with fail
          refine (Calls.mono SZ.out) ?_
          rintro e w1 ⟨rfl, b1⟩
          have B1 := Lib.hid (hb.trans (b1.mono hb.size))
          clear b1
          go_wp2
          go_roundw
          case rel => exact ⟨k + 1, l', by omega, by go_num, rfl, by have := HM.out; have := HT.out; omega, B1.out⟩
          case measure => simp [intOf]; omega
        · rw [if_neg hc] at SZ
          have HR := Lib.hid (show IntK.leftOf L (termsSize xs) = -1 from if_neg (by unfold termsSize; have := HM.out; have := HT.out; have := HE.out; omega))
          clear hc
          go_wp2_with fail
          refine (Calls.mono SZ.out) ?_
          rintro e w1 ⟨rfl, b1⟩
          have B1 := Lib.hid (hb.trans (b1.mono hb.size))
          clear b1
          go_wp2
          go_ret
          exact ⟨by rw [HR.out]; rfl, B1.out⟩
      · obtain rfl : k = xs.length := by omega
        rw [List.take_length] at hsum
        have HR := Lib.hid (show IntK.leftOf L (termsSize xs) = (l : Int) by
          unfold IntK.leftOf termsSize
          rw [if_pos (by omega)]
          omega)
        clear hsum
        go_wp2
        go_ret
        exact ⟨by rw [HR.out]; rfl, hb⟩
  · have HR := Lib.hid (show IntK.leftOf L (termsSize xs) = -1 from if_neg (by unfold termsSize; omega))
    have hlt0 : decide ((L : Int) - (xs.length : Int) < 0) = true := decide_eq_true (by omega)
    clear hs
    go_enter Try.func25, Try.ntmps25
    go_wp2
    go_ret
    exact ⟨by rw [HR.out]; rfl, Below.refl _ _⟩

set_option maxHeartbeats 1000000 in
set_option maxRecDepth 100000 in
theorem eqTermS (q q2 : Bool) (fp gp : List Nat) (A B : Option Addr) (c d : Nat) (xs : List (Int × ByteArray)) (w : World) (hA : terms.rep q w fp [.slice A xs.length c] xs) (hB : terms.rep q2 w gp [.slice B xs.length d] xs) (hl : xs.length ≤ 1000000000) :
    Calls Try.prog 33 #[.slice A xs.length c, .slice B xs.length d] w fun e w' => e = .returned (.bool true) ∧ Below w.heap.size w w' := by
  have HL := Lib.hid hl
  clear hl
  have hxl : xs.length ≤ 1000000000 := by have := HL.out; omega
  go_enter Try.func33, Try.ntmps33
  go_wp2
  go_loopw [5] (fun i wr => ∃ k : Nat, k ≤ xs.length ∧ i = .int .i64 k ∧ Below w.heap.size w wr) (fun i _ => xs.length - (intOf i).toNat)
  case atStart => exact ⟨0, Nat.zero_le _, rfl, Below.refl _ _⟩
  case round =>
    obtain ⟨k, hk, rfl, hb⟩ := hrel
    by_cases hlt : k < xs.length
    · obtain ⟨b, o, rfl, hbb, c0, c1⟩ := terms_at (Rep.below hA hb) hlt
      obtain ⟨b2, o2, rfl, hbb2, e0, e1⟩ := terms_at (Rep.below hB hb) hlt

      generalize xs[k] = x at *
      obtain ⟨z, s⟩ := x
      simp only at c0 c1 e0 e1
      have hd : Below wr.heap.size wr wr.drew := (Below.refl _ _).drew
      have EQ := Lib.hid (eqTerm z s wr.drew)
      have hi0 : (0 : Int) ≤ (k : Int) := by omega
      have hi1 : (k : Int) < (xs.length : Int) := by omega
      clear hd
      go_wp2_with fail
      go_region_law (first
        | (go_simp; go_at_call 51; refine (Calls.mono EQ.out) ?_; rintro e w1 ⟨rfl, b1⟩))
      all_goals
        have B1' := Lib.hid (hb.trans (((Below.refl wr.heap.size wr).drew.trans b1).mono hb.size))
        clear b1
        go_wp2
        go_roundw
        case rel => exact ⟨k + 1, by omega, by go_num, B1'.out⟩
        case measure => simp [intOf]; omega
    · go_wp2
      go_ret
      exact ⟨rfl, hb⟩

def HeldT (w : World) (xs : List (Int × ByteArray)) (k0 : Nat) (x i : Value) (wr : World) : Prop :=
  ∃ k : Nat, k ≤ xs.length ∧ i = .int .i64 k ∧ x = .int .i64 ((k0 + 2 * k : Nat) : Int) ∧ Below w.heap.size w wr
/-- What markTermS leaves. -/
def MarkedTerm (fp : List Nat) (w : World) (A : Option Addr) (c k0 : Nat) (xs : List (Int × ByteArray)) (e : Ending) (w' : World) : Prop :=
  e = .returned (.int .i64 ((k0 : Int) + szs nTerm xs)) ∧ terms.rep true w' fp [.slice A xs.length c] (mks mkTerm nTerm k0 xs) ∧ ModF fp w w'
set_option maxHeartbeats 1000000 in
set_option maxRecDepth 100000 in
theorem markTermS (fp : List Nat) (A : Option Addr) (c k0 : Nat) (xs : List (Int × ByteArray)) (w : World) (hA : terms.rep true w fp [.slice A xs.length c] xs) (hn : fp.Nodup) (hl : xs.length ≤ 1000000000) (h1 : 1 ≤ k0) (hk0 : k0 ≤ 20000000000) :
    Calls Try.prog 55 #[.slice A xs.length c, .int .i64 k0] w (MarkedTerm fp w A c k0 xs) := by
  by_cases h0 : xs = []
  · subst h0
    have F := Lib.hid (show MarkedTerm fp w A c k0 [] (.returned (.int .i64 k0)) w from ⟨by simp [szs], hA, ModF.refl _ _⟩)
    clear hA
    go_enter Try.func55, Try.ntmps55
    go_wp2
    refine wp_loop_rounds 1 ?_
    rw [rounds_succ]
    go_wp2
    go_ret
    exact F.out
  · have HL := Lib.hid hl
    have hxl : xs.length ≤ 1000000000 := by omega
    have HK := Lib.hid hk0
    have HK1 := Lib.hid h1
    have HNE := Lib.hid h0
    have HC := Lib.hid (show xs.length ≤ c by
      obtain ⟨_, _, e, h, _⟩ := hA
      injection e with e _
      injection e with _ _ e
      omega)
    have M0 := Lib.hid (marking_zero (mk := mkTerm) (sz := nTerm) k0 hA hn h0)
    clear hl hA hk0 h0 hn h1
    go_enter Try.func55, Try.ntmps55
    go_wp2
    go_loopw [1, 5] (fun x i wr => Marking term mkTerm nTerm fp w xs A k0 x i wr) (fun _ i _ => xs.length - (intOf i).toNat)
    case atStart => exact M0.out
    case round =>
      obtain ⟨k, l, rfl, rfl, hk, hl9, hl1⟩ : ∃ k l : Nat, u5 = .int .i64 k ∧ u1 = .int .i64 l ∧ k ≤ xs.length ∧ l ≤ 30000000000 ∧ 1 ≤ l := by
        obtain ⟨k, l, _, _, _, _, h1, h2, h3, h4, _⟩ := hrel
        have h5 := szs_take (sz := nTerm) xs k
        have := HL.out
        have := HK.out
        have := HK1.out
        have h6 := nTerms xs
        exact ⟨k, l, h2, h3, h1, by omega, by omega⟩
      by_cases hlt : k < xs.length
      · obtain ⟨b, o, f, cs, rfl, hbb, hre, hnd, hbf, hcc, hff, hnext⟩ := marking_at hrel hlt
        have HNX := Lib.hid hnext
        have c0 := hcc 0 (Nat.succ_pos _)
        have c1 := hcc 1 (Nat.lt_succ_self _)
        have f0 := hff 0 (Nat.succ_pos _)
        have f1 := hff 1 (Nat.lt_succ_self _)
        simp only [show term.n = 2 from rfl, Nat.add_zero] at c0 c1 f0 f1
        have HBF := Lib.hid hbf
        obtain ⟨rfl, rfl⟩ := term_open hre
        generalize xs[k] = x at *
        obtain ⟨z, s⟩ := x
        simp only [List.getElem?_cons_zero, List.getElem?_cons_succ] at c0 c1
        have MT := Lib.hid (StrK.markText (l + 1) (by omega) (by omega) (wr.setCell ⟨b, o + k * 2, none⟩ (.int .i64 l)))
        have hcast : ((l + 1 : Nat) : Int) = (l : Int) + 1 := by omega
        rw [hcast] at MT
        clear hnext hcc hff hre hcast hrel
        go_wp2_with fail
        refine (Calls.mono MT.out) ?_
        rintro e w1 ⟨rfl, b1⟩
        have hbl : b < (wr.setCell ⟨b, o + k * 2, none⟩ (.int .i64 l)).heap.size := by simpa using hbb
        have g1 : w1.cell? ⟨b, o + k * 2 + 1, none⟩ = some (.string s) := by rw [b1.cell (p := ⟨b, o + k * 2 + 1, none⟩) hbl, World.cell?_setCell_other _ _ _ _ (by intro h; simp only [Addr.mk.injEq] at h; omega)]; exact c1
        have g2 : w1.frozen? ⟨b, o + k * 2 + 1, none⟩ = false := by rw [b1.frozen (p := ⟨b, o + k * 2 + 1, none⟩) hbl, World.frozen?_setCell]; exact f1
        have hN := HNX.out (w1.setCell ⟨b, o + k * 2 + 1, none⟩ (.string (StrK.mt (l + 1)))) [.int .i64 l, .string (StrK.mt (l + 1))] (term_close _ _ _ _)
          (((ModF.set wr (p := ⟨b, o + k * 2, none⟩) (by simp) (.int .i64 l)).trans (ModF.of_below b1)).trans (ModF.set w1 (p := ⟨b, o + k * 2 + 1, none⟩) (by simp) _))
          (fun j hj => by
            have hj : j < k * 2 ∨ k * 2 + 2 ≤ j := hj
            rw [World.cell?_setCell_other _ _ _ _ (by intro h; simp only [Addr.mk.injEq] at h; omega), b1.cell (p := ⟨b, o + j, none⟩) hbl, World.cell?_setCell_other _ _ _ _ (by intro h; simp only [Addr.mk.injEq] at h; omega)])
          (fun i hi => by
            have hi : i < 2 := hi
            rcases i with _ | _ | i
            · show (w1.setCell ⟨b, o + k * 2 + 1, none⟩ _).cell? ⟨b, o + k * 2, none⟩ = some (.int .i64 l)
              rw [World.cell?_setCell_other _ _ _ _ (by intro h; simp only [Addr.mk.injEq] at h; omega), b1.cell (p := ⟨b, o + k * 2, none⟩) hbl, World.cell?_setCell_same _ _ _ c0]
            · exact World.cell?_setCell_same _ _ _ g1
            · omega)
          (fun j => by rw [World.frozen?_setCell, b1.frozen (p := ⟨b, o + j, none⟩) hbl, World.frozen?_setCell])
        have HN := Lib.hid hN
        clear hN b1 c0 c1 f0 f1 HNX
        go_wp2
        go_roundw
        case rel => exact (show Marking term mkTerm nTerm fp w xs _ k0 _ _ _ from by simpa [nTerm, Int.add_assoc] using HN.out)
        case measure => simp [intOf]; omega
      · obtain rfl : k = xs.length := by omega
        obtain ⟨h1, h2, h3⟩ := marking_end HC.out HNE.out hrel
        have F := Lib.hid (show MarkedTerm fp w A c k0 xs (.returned (.int .i64 l)) wr from ⟨by rw [h3], h1, h2⟩)
        clear h1 h2 h3 hrel
        go_wp2
        go_ret
        exact F.out
end Mem
end Go.Proofs.Ytaepfdgfjcdidaa
