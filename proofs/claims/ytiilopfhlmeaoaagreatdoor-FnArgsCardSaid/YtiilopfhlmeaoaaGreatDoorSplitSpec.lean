import Derived.Test.YtiilopfhlmeaoaaGreatDoorFmtSpec
import Derived.Test.YtiilopfhlmeaoaaGreatDoorArgMath2
import Derived.Lib.Hide
import Derived.Lib.IndexBytes
import Derived.Lib.Strings
import Derived.Test.YtiilopfhlmeaoaaGreatDoorCut2
import Derived.Test.YtiilopfhlmeaoaaGreatDoorKit
import Derived.Test.YtiilopfhlmeaoaaGreatDoorStrRow
import Derived.Test.YtiilopfhlmeaoaaGreatDoorShelf
/-
  spec.l1Read, spec.ParseNumber, spec.ParseInt: the integer whose numeral the text is, and true; or 0 and false.
-/
namespace Go.Proofs.YtiilopfhlmeaoaaGreatDoor
open Go.RowKit
namespace ReadS

/-- The two results, as the model hands them back. -/
def out (r : Option Int) : Value := .tuple #[.int .i64 (r.getD 0), .bool r.isSome]

theorem getElem_list (s : ByteArray) (k : Nat) (h : k < s.size) : s.data.toList[k]? = some s[k] := by
  rw [List.getElem?_eq_getElem (by simpa using h)]; rfl

theorem digit_some {b : UInt8} (h1 : 48 ≤ (b.toNat : Int)) (h2 : (b.toNat : Int) ≤ 57) : Lib.digitVal b = some (b.toNat - 48) := by
  unfold Lib.digitVal
  rw [if_pos (by omega)]
theorem digit_none {b : UInt8} (h : (b.toNat : Int) < 48 ∨ 57 < (b.toNat : Int)) : Lib.digitVal b = none := by
  unfold Lib.digitVal
  rw [if_neg (by omega)]

theorem l1r_len {most : Nat} {l : List UInt8} (h : (NumM.body l).length < 1 ∨ most < (NumM.body l).length) : NumM.l1r most l = none := by
  unfold NumM.l1r
  rw [if_pos h]
theorem l1r_stop {most : Nat} {l : List UInt8} (h : Lib.decFrom 0 (NumM.body l) = none) : NumM.l1r most l = none := by
  unfold NumM.l1r
  split
  · rfl
  · rw [h]
theorem l1r_val {most : Nat} {l : List UInt8} {v : Nat} (hl : 1 ≤ (NumM.body l).length ∧ (NumM.body l).length ≤ most) (h : Lib.decFrom 0 (NumM.body l) = some v) :
    NumM.l1r most l = if Lib.itoa (NumM.signed l v) = l then some (NumM.signed l v) else none := by
  unfold NumM.l1r
  rw [if_neg (by omega), h]

set_option maxHeartbeats 400000 in
set_option maxRecDepth 100000 in
theorem empty (s : ByteArray) (most : Nat) (_h1 : 1 ≤ most) (_h2 : most ≤ 12) (hne : s.size = 0) (w : World) :
    Calls Tryz.prog 97 #[.string s, .int .i64 most] w fun e w' => e = .returned (out (NumM.l1r most s.data.toList)) ∧ Below w.heap.size w w' := by
  have hsz : s.size ≤ 0 := by omega
  have hfin : NumM.l1r most s.data.toList = none := by
    have e : s.data.toList = [] := List.eq_nil_of_length_eq_zero (by simpa using hne)
    rw [e]
    exact l1r_len (Or.inl (by simp [NumM.body]))
  have HFIN := Lib.hid hfin
  clear hfin hne
  go_enter Tryz.func97, Tryz.ntmps97
  go_wp2
  go_ret2
  exact ⟨by rw [HFIN.out]; rfl, Below.refl _ _⟩

set_option maxHeartbeats 400000 in
set_option maxRecDepth 100000 in
theorem pos_long (s : ByteArray) (most : Nat) (_h1 : 1 ≤ most) (_h2 : most ≤ 12) (hsz : s.size ≤ 1048576) (hne : 0 < s.size) (h45 : ((s[0].toNat : Int) == 45) = false) (hbody : NumM.body s.data.toList = s.data.toList) (hlong : most < s.size) (w : World) :
    Calls Tryz.prog 97 #[.string s, .int .i64 most] w fun e w' => e = .returned (out (NumM.l1r most s.data.toList)) ∧ Below w.heap.size w w' := by
  have hfin : NumM.l1r most s.data.toList = none := l1r_len (Or.inr (by rw [hbody]; simpa using hlong))
  have HFIN := Lib.hid hfin
  clear hfin hbody
  go_enter Tryz.func97, Tryz.ntmps97
  go_wp2
  go_ret2
  exact ⟨by rw [HFIN.out]; rfl, Below.refl _ _⟩

set_option maxHeartbeats 1000000 in
set_option maxRecDepth 100000 in
theorem pos_short (s : ByteArray) (most : Nat) (h1 : 1 ≤ most) (h2 : most ≤ 12) (hne : 0 < s.size) (h45 : ((s[0].toNat : Int) == 45) = false) (hbody : NumM.body s.data.toList = s.data.toList) (hsg : ∀ v, NumM.signed s.data.toList v = (v : Int)) (hlong : s.size ≤ most) (w : World) :
    Calls Tryz.prog 97 #[.string s, .int .i64 most] w fun e w' => e = .returned (out (NumM.l1r most s.data.toList)) ∧ Below w.heap.size w w' := by
  have HBODY := Lib.hid hbody
  have hsz : s.size ≤ 12 := by omega
  have HSGN : ∀ {v}, Hid (NumM.signed s.data.toList v = (v : Int)) := fun {v} => hsg v
  clear hbody hsg
  have hml : decide (most < s.size) = false := by simpa using hlong
  have hm1 : decide ((s.size : Int) < 1) = false := by simp; omega
  go_enter Tryz.func97, Tryz.ntmps97
  go_wp2
  go_loopw [8, 9] (fun n i wr => ∃ k acc : Nat, k ≤ s.size ∧ i = .int .i64 k ∧ n = .int .i64 acc ∧ Hid (Lib.decFrom 0 (s.data.toList.take k) = some acc) ∧ acc < 100000000000000000 ∧ w = wr) (fun _ i _ => s.size - (intOf i).toNat)
  case atStart => exact ⟨0, 0, Nat.zero_le _, rfl, rfl, rfl, by omega, rfl⟩
  case round =>
    obtain ⟨k, acc, hk, rfl, rfl, hdec, hacc, rfl⟩ := hrel
    by_cases hlt : k < s.size
    · have hb := getElem_list s k hlt
      have HB := Lib.hid hb
      clear hb
      by_cases hlo : 48 ≤ (s[k].toNat : Int)
      · by_cases hhi : (s[k].toNat : Int) ≤ 57
        · have hstep := Lib.hid (Lib.decFrom_take s.data.toList k 0 acc _ _ hdec.out HB.out (digit_some hlo hhi))
          have hbd := Lib.hid (Lib.decFrom_take_lt hstep.out (by omega))
          go_wp2
          go_roundw
          case rel => exact ⟨k + 1, acc * 10 + (s[k].toNat - 48), by omega, by go_num, congrArg (Value.int .i64) (by omega), hstep, hbd.out, trivial⟩
          case measure => simp [intOf]; omega
        · have hst := Lib.hid (l1r_stop (most := most) (NumM.decFrom_stop (k := k) (by rw [HBODY.out]; exact HB.out) (digit_none (Or.inr (by omega)))))
          go_wp2
          go_ret2
          exact ⟨by rw [hst.out]; rfl, Below.refl _ _⟩
      · have hst := Lib.hid (l1r_stop (most := most) (NumM.decFrom_stop (k := k) (by rw [HBODY.out]; exact HB.out) (digit_none (Or.inl (by omega)))))
        go_wp2
        go_ret2
        exact ⟨by rw [hst.out]; rfl, Below.refl _ _⟩
    · obtain rfl : k = s.size := by omega
      have hall := hdec.out
      rw [List.take_of_length_le (by simp)] at hall
      have hval := l1r_val (most := most) (l := s.data.toList) (v := acc) (by rw [HBODY.out]; simp; omega) (by rw [HBODY.out]; exact hall)
      rw [HSGN.out] at hval
      have HVAL := Lib.hid hval
      clear hval hall hdec
      by_cases heq : Lib.itoa ((acc : Int)) = s.data.toList
      · have hs : (Lib.itoa ((acc : Int)) == s.toList) = true := by rw [heq, ByteArray.toList_eq]; simp
        have hfin : NumM.l1r most s.data.toList = some ((acc : Int)) := by rw [HVAL.out, if_pos heq]
        have HFIN := Lib.hid hfin
        clear heq hfin
        go_wp2_with fail
        refine (FmtS.any ((acc : Int)) (by omega) (by omega) _).mono ?_
        rintro e w1 ⟨rfl, hb1⟩
        go_wp2
        go_ret2
        exact ⟨by rw [HFIN.out]; rfl, hb1⟩
      · have hs : (Lib.itoa ((acc : Int)) == s.toList) = false := by rw [ByteArray.toList_eq]; simpa using heq
        have hfin : NumM.l1r most s.data.toList = none := by rw [HVAL.out, if_neg heq]
        have HFIN := Lib.hid hfin
        clear heq hfin
        go_wp2_with fail
        refine (FmtS.any ((acc : Int)) (by omega) (by omega) _).mono ?_
        rintro e w1 ⟨rfl, hb1⟩
        go_wp2
        go_ret2
        exact ⟨by rw [HFIN.out]; rfl, hb1⟩

set_option maxHeartbeats 400000 in
set_option maxRecDepth 100000 in
theorem neg_long (s : ByteArray) (most : Nat) (_h1 : 1 ≤ most) (_h2 : most ≤ 12) (hsz : s.size ≤ 1048576) (hne : 0 < s.size) (h45 : ((s[0].toNat : Int) == 45) = true) (hbody : NumM.body s.data.toList = s.data.toList.drop 1) (hlong : s.size - 1 < 1 ∨ most < s.size - 1) (w : World) :
    Calls Tryz.prog 97 #[.string s, .int .i64 most] w fun e w' => e = .returned (out (NumM.l1r most s.data.toList)) ∧ Below w.heap.size w w' := by
  have hfin : NumM.l1r most s.data.toList = none := l1r_len (by rw [hbody]; simpa using hlong)
  have HFIN := Lib.hid hfin
  clear hfin hbody
  by_cases hone : s.size - 1 < 1
  · clear hlong
    go_enter Tryz.func97, Tryz.ntmps97
    go_wp2
    go_ret2
    exact ⟨by rw [HFIN.out]; rfl, Below.refl _ _⟩
  · have hl := hlong.resolve_left hone
    clear hlong
    go_enter Tryz.func97, Tryz.ntmps97
    go_wp2
    go_ret2
    exact ⟨by rw [HFIN.out]; rfl, Below.refl _ _⟩

set_option maxHeartbeats 1000000 in
set_option maxRecDepth 100000 in
theorem neg_short (s : ByteArray) (most : Nat) (h1 : 1 ≤ most) (h2 : most ≤ 12) (hne : 2 ≤ s.size) (h45 : ((s[0].toNat : Int) == 45) = true) (hbody : NumM.body s.data.toList = s.data.toList.drop 1) (hsg : ∀ v, NumM.signed s.data.toList v = -(v : Int)) (hlong : s.size - 1 ≤ most) (w : World) :
    Calls Tryz.prog 97 #[.string s, .int .i64 most] w fun e w' => e = .returned (out (NumM.l1r most s.data.toList)) ∧ Below w.heap.size w w' := by
  have HBODY' : Hid (NumM.body s.data.toList = (s.extract 1 s.size).data.toList) := by rw [Lib.extract_to_end]; exact hbody
  have hT : Hid ((s.extract 1 s.size).size = s.size - 1) := by simp [Hid]
  have hsz : s.size ≤ 13 := by omega
  have HSGN : ∀ {v}, Hid (NumM.signed s.data.toList v = -(v : Int)) := fun {v} => hsg v
  clear hbody hsg
  have hml : decide (most < s.size - 1) = false := by simpa using hlong
  have hm1 : decide (((s.size - 1 : Nat) : Int) < 1) = false := by simp; omega
  go_enter Tryz.func97, Tryz.ntmps97
  go_wp2
  generalize s.extract 1 s.size = t at *
  have HBODY := HBODY'
  have hts : t.size ≤ 12 := by have := hT.out; omega
  have hts1 : 1 ≤ t.size := by have := hT.out; omega
  have hts2 : t.size ≤ most := by have := hT.out; omega
  go_loopw [8, 9] (fun n i wr => ∃ k acc : Nat, k ≤ t.size ∧ i = .int .i64 k ∧ n = .int .i64 acc ∧ Hid (Lib.decFrom 0 (t.data.toList.take k) = some acc) ∧ acc < 100000000000000000 ∧ w = wr) (fun _ i _ => t.size - (intOf i).toNat)
  case atStart => exact ⟨0, 0, Nat.zero_le _, rfl, rfl, rfl, by omega, rfl⟩
  case round =>
    obtain ⟨k, acc, hk, rfl, rfl, hdec, hacc, rfl⟩ := hrel
    by_cases hlt : k < t.size
    · have hb := getElem_list t k hlt
      have HB := Lib.hid hb
      clear hb
      by_cases hlo : 48 ≤ (t[k].toNat : Int)
      · by_cases hhi : (t[k].toNat : Int) ≤ 57
        · have hstep := Lib.hid (Lib.decFrom_take t.data.toList k 0 acc _ _ hdec.out HB.out (digit_some hlo hhi))
          have hbd := Lib.hid (Lib.decFrom_take_lt hstep.out (by omega))
          go_wp2
          go_roundw
          case rel => exact ⟨k + 1, acc * 10 + (t[k].toNat - 48), by omega, by go_num, congrArg (Value.int .i64) (by omega), hstep, hbd.out, trivial⟩
          case measure => simp [intOf]; omega
        · have hst := Lib.hid (l1r_stop (most := most) (NumM.decFrom_stop (k := k) (by rw [HBODY.out]; exact HB.out) (digit_none (Or.inr (by omega)))))
          go_wp2
          go_ret2
          exact ⟨by rw [hst.out]; rfl, Below.refl _ _⟩
      · have hst := Lib.hid (l1r_stop (most := most) (NumM.decFrom_stop (k := k) (by rw [HBODY.out]; exact HB.out) (digit_none (Or.inl (by omega)))))
        go_wp2
        go_ret2
        exact ⟨by rw [hst.out]; rfl, Below.refl _ _⟩
    · obtain rfl : k = t.size := by omega
      have hall := hdec.out
      rw [List.take_of_length_le (by simp)] at hall
      have hval := l1r_val (most := most) (l := s.data.toList) (v := acc) (by rw [HBODY.out]; simp; omega) (by rw [HBODY.out]; exact hall)
      rw [HSGN.out] at hval
      have HVAL := Lib.hid hval
      clear hval hall hdec
      by_cases heq : Lib.itoa (-(acc : Int)) = s.data.toList
      · have hs : (Lib.itoa (-(acc : Int)) == s.toList) = true := by rw [heq, ByteArray.toList_eq]; simp
        have hfin : NumM.l1r most s.data.toList = some (-(acc : Int)) := by rw [HVAL.out, if_pos heq]
        have HFIN := Lib.hid hfin
        clear heq hfin
        go_wp2_with fail
        refine (FmtS.any (-(acc : Int)) (by omega) (by omega) _).mono ?_
        rintro e w1 ⟨rfl, hb1⟩
        go_wp2
        go_ret2
        exact ⟨by rw [HFIN.out]; rfl, hb1⟩
      · have hs : (Lib.itoa (-(acc : Int)) == s.toList) = false := by rw [ByteArray.toList_eq]; simpa using heq
        have hfin : NumM.l1r most s.data.toList = none := by rw [HVAL.out, if_neg heq]
        have HFIN := Lib.hid hfin
        clear heq hfin
        go_wp2_with fail
        refine (FmtS.any (-(acc : Int)) (by omega) (by omega) _).mono ?_
        rintro e w1 ⟨rfl, hb1⟩
        go_wp2
        go_ret2
        exact ⟨by rw [HFIN.out]; rfl, hb1⟩

/-- L1READ, at every text: what 'l1r' says. -/
theorem any (s : ByteArray) (most : Nat) (h1 : 1 ≤ most) (h2 : most ≤ 12) (hsz : s.size ≤ 1048576) (w : World) :
    Calls Tryz.prog 97 #[.string s, .int .i64 most] w fun e w' => e = .returned (out (NumM.l1r most s.data.toList)) ∧ Below w.heap.size w w' := by
  by_cases h0 : s.size = 0
  · exact empty s most h1 h2 h0 w
  · have hne : 0 < s.size := by omega
    have hl : s.data.toList[0]? = some s[0] := getElem_list s 0 hne
    have hd : s.data.toList.head? = some s[0] := by rw [List.head?_eq_getElem?]; exact hl
    by_cases h45 : s[0] = 45
    · have hbody : NumM.body s.data.toList = s.data.toList.drop 1 := by
        rw [NumM.body, hd, if_pos (by rw [h45]), List.drop_one]
      have hsg : ∀ v, NumM.signed s.data.toList v = -(v : Int) := fun v => by rw [NumM.signed, hd, if_pos (by rw [h45])]
      have hb : ((s[0].toNat : Int) == 45) = true := by rw [h45]; rfl
      by_cases hs : s.size - 1 < 1 ∨ most < s.size - 1
      · exact neg_long s most h1 h2 hsz hne hb hbody hs w
      · exact neg_short s most h1 h2 (by omega) hb hbody hsg (by omega) w
    · have hn : ¬ some s[0] = some (45 : UInt8) := fun h => h45 (Option.some.inj h)
      have hbody : NumM.body s.data.toList = s.data.toList := by rw [NumM.body, hd, if_neg hn]
      have hsg : ∀ v, NumM.signed s.data.toList v = (v : Int) := fun v => by rw [NumM.signed, hd, if_neg hn]
      have hb : ((s[0].toNat : Int) == 45) = false := by
        rw [beq_eq_false_iff_ne]
        intro h
        exact h45 (UInt8.toNat_inj.1 (by have : (45 : UInt8).toNat = 45 := rfl; omega))
      by_cases hs : most < s.size
      · exact pos_long s most h1 h2 hsz hne hb hbody hs w
      · exact pos_short s most h1 h2 hne hb hbody hsg (by omega) w

theorem rd_number (l : List UInt8) : NumM.rd 0 999999 l = match NumM.l1r 6 l with | some n => if n < 0 then none else some n | none => none := by
  rw [NumM.l1r_eq 5 l]
  cases h : NumM.rd (-(10 ^ (5 + 1) : Nat) + 1) ((10 ^ (5 + 1) : Nat) - 1) l with
  | none =>
    rw [NumM.rd_none] at h ⊢
    intro n a b
    exact h n (by omega) (by omega)
  | some n =>
    obtain ⟨a, b, c⟩ := NumM.rd_some.1 h
    simp only
    split
    · rename_i hn
      refine NumM.rd_none.2 fun m x y e => ?_
      have := NumM.itoa_inj (e.trans c.symm)
      omega
    · exact NumM.rd_some.2 ⟨by omega, by omega, c⟩

set_option maxHeartbeats 400000 in
set_option maxRecDepth 100000 in
/-- SPEC.PARSENUMBER. -/
theorem parseNumber (s : ByteArray) (hsz : s.size ≤ 1048576) (w : World) :
    Calls Tryz.prog 72 #[.string s] w fun e w' => e = .returned (out (NumM.rd 0 999999 s.data.toList)) ∧ Below w.heap.size w w' := by
  rw [rd_number]
  have C := Lib.hid (any s 6 (by omega) (by omega) hsz)
  cases hr : NumM.l1r 6 s.data.toList with
  | none =>
    rw [hr] at C
    clear hr
    go_enter Tryz.func72, Tryz.ntmps72
    go_wp2_with fail
    refine (Calls.mono (C.out _)) ?_
    rintro e w1 ⟨rfl, hb1⟩
    simp only [out]
    go_wp2
    go_ret2
    exact ⟨rfl, hb1⟩
  | some n =>
    rw [hr] at C
    clear hr
    by_cases hn : n < 0
    · go_enter Tryz.func72, Tryz.ntmps72
      go_wp2_with fail
      refine (Calls.mono (C.out _)) ?_
      rintro e w1 ⟨rfl, hb1⟩
      simp only [out]
      go_wp2
      go_ret2
      exact ⟨rfl, hb1⟩
    · go_enter Tryz.func72, Tryz.ntmps72
      go_wp2_with fail
      refine (Calls.mono (C.out _)) ?_
      rintro e w1 ⟨rfl, hb1⟩
      simp only [out]
      go_wp2
      go_ret2
      exact ⟨rfl, hb1⟩

end ReadS
end Go.Proofs.YtiilopfhlmeaoaaGreatDoor

/-
  spec.l5Word: a term without its sign, as the model reads it.
-/
namespace Go.Proofs.YtiilopfhlmeaoaaGreatDoor
open Go.RowKit
namespace WordS
open TextM TextI NameM CutI

/-- What is handed back. -/
def Word (w : World) (t : TItem) (e : Ending) (w' : World) : Prop := e = .returned (.tuple #[.int .i64 t.1, .string t.2]) ∧ Below w.heap.size w w'
theorem readS_empty {l : List UInt8} (h : l.takeWhile digit = []) : readS 999999 l = (1, ⟨l.toArray⟩) := by rw [readS, if_pos h]
theorem readS_some {l : List UInt8} {n : Int} (h : l.takeWhile digit ≠ []) (hr : NumM.rd 0 999999 (l.takeWhile digit) = some n) : readS 999999 l = (n, ⟨(l.dropWhile digit).toArray⟩) := by rw [readS, if_neg h, hr]
theorem readS_none {l : List UInt8} (h : l.takeWhile digit ≠ []) (hr : NumM.rd 0 999999 (l.takeWhile digit) = none) : readS 999999 l = (0, ⟨#[63]⟩) := by rw [readS, if_neg h, hr]

set_option maxHeartbeats 2000000 in
set_option maxRecDepth 100000 in
theorem word (s : ByteArray) (hs : s.size ≤ 1048576) (w : World) :
    Calls Tryz.prog 46 #[.string s] w (Word w (readS 999999 s.data.toList)) := by
  go_enter Tryz.func46, Tryz.ntmps46
  go_wp2
  go_loopw [4] (fun i wr => ∃ k : Nat, k ≤ s.size ∧ i = .int .i64 k ∧ (∀ j c, j < k → s.data.toList[j]? = some c → digit c = true) ∧ Below w.heap.size w wr) (fun i _ => s.size - (intOf i).toNat)
  case atStart => exact ⟨0, Nat.zero_le _, rfl, fun j c hj => absurd hj (Nat.not_lt_zero _), Below.refl _ _⟩
  case round =>
    obtain ⟨k, hk, rfl, hpre, hb⟩ := hrel
    have HP := Lib.hid hpre
    have HB := Lib.hid hb
    clear hpre hb
    have hi0 : (0 : Int) ≤ (k : Int) := by omega
    have hi1 : (k : Int) ≤ (s.size : Int) := by omega
    by_cases hgo : k < s.size ∧ ∀ c, s.data.toList[k]? = some c → digit c = true
    · obtain ⟨hlt, hd⟩ := hgo
      have hg := at_data s k hlt
      have hdd := hd _ hg
      have HN := Lib.hid (show ∀ j c, j < k + 1 → s.data.toList[j]? = some c → digit c = true from fun j c hj hc => by
        by_cases e : j = k
        · subst e; exact hd c hc
        · exact HP.out j c (by omega) hc)
      simp only [digit, Bool.and_eq_true, decide_eq_true_eq] at hdd
      have hk1 : (k : Int) < (s.size : Int) := by omega
      have h1 : (48 : Int) ≤ (s[k].toNat : Int) := by omega
      have h2 : (s[k].toNat : Int) ≤ 57 := by omega
      have h1' : decide ((48 : Int) ≤ (s[k].toNat : Int)) = true := decide_eq_true h1
      have h2' : decide ((s[k].toNat : Int) ≤ 57) = true := decide_eq_true h2
      clear hd hg hdd
      go_wp2
      go_roundw
      case rel => exact ⟨k + 1, by omega, by go_num, HN.out, HB.out⟩
      case measure => simp [intOf]; omega
    · have hstop : ∀ c, s.data.toList[k]? = some c → digit c = false := fun c hc => by
        have hlt : k < s.size := by
          have := (List.getElem?_eq_some_iff.1 hc).1
          rwa [size_list] at this
        cases hd : digit c with
        | false => rfl
        | true => exact absurd ⟨hlt, fun d hd2 => by rw [hc] at hd2; obtain rfl := Option.some.inj hd2; exact hd⟩ hgo
      have hsp := span_at s.data.toList k (by rw [size_list]; exact hk) HP.out hstop
      have hex := upto_eq s k
      rw [← hsp.1] at hex
      have PN := Lib.hid (fun W => ReadS.parseNumber (s.extract 0 k) (by rw [hex, size_mk, hsp.1, List.length_take]; omega) W)
      unfold ReadS.out at PN
      have e0 : (s.extract 0 k).data.toList = s.data.toList.takeWhile digit := by rw [hex]
      rw [e0] at PN
      have hfr : s.extract k s.size = ⟨(s.data.toList.dropWhile digit).toArray⟩ := by rw [hsp.2]; exact from_eq s k
      have hke : k = 0 ↔ s.data.toList.takeWhile digit = [] := by
        rw [hsp.1, List.take_eq_nil_iff]
        constructor
        · intro h; exact Or.inl h
        · rintro (h | h)
          · exact h
          · have : s.size = 0 := by rw [← size_list, h]; rfl
            omega
      have hcs : (¬ k < s.size) ∨ ∃ h : k < s.size, ((s[k].toNat : Int) < 48 ∨ (48 ≤ (s[k].toNat : Int) ∧ 57 < (s[k].toNat : Int))) := by
        by_cases hlt : k < s.size
        · refine Or.inr ⟨hlt, ?_⟩
          have := hstop _ (at_data s k hlt)
          simp only [digit, Bool.and_eq_false_iff, decide_eq_false_iff_not] at this
          omega
        · exact Or.inl hlt
      have hrs : s.data.toList.takeWhile digit = [] ∨ ((s.data.toList.takeWhile digit ≠ []) ∧ (NumM.rd 0 999999 (s.data.toList.takeWhile digit) = none ∨ ∃ n, NumM.rd 0 999999 (s.data.toList.takeWhile digit) = some n)) := by
        by_cases h : s.data.toList.takeWhile digit = []
        · exact Or.inl h
        · refine Or.inr ⟨h, ?_⟩
          cases NumM.rd 0 999999 (s.data.toList.takeWhile digit) with
          | none => exact Or.inl rfl
          | some n => exact Or.inr ⟨n, rfl⟩
      have HFR := Lib.hid hfr
      have HKE := Lib.hid hke
      have RS := Lib.hid (fun (n : Int) a b => readS_some (l := s.data.toList) (n := n) a b)
      have RE := Lib.hid (readS_empty (l := s.data.toList))
      have RN := Lib.hid (readS_none (l := s.data.toList))
      clear hgo hstop hsp hex e0 hfr hke HP
      generalize s.data.toList.takeWhile digit = D at *
      generalize s.data.toList.dropWhile digit = E at *
      rcases hcs with hge | ⟨hlt, hlo | ⟨h48, h57⟩⟩
      · have hd1 : decide (k < s.size) = false := decide_eq_false hge
        have hd2 : decide ((k : Int) < (s.size : Int)) = false := decide_eq_false (by omega)
        rcases hrs with hD | ⟨hD, hr | ⟨n, hr⟩⟩
        · have hk0 : ((k : Int) == 0) = true := by have := HKE.out.2 hD; subst this; rfl
          have HF := Lib.hid (RE.out hD)
          clear hD
          go_wp2_with fail
          refine (Calls.mono (PN.out _)) ?_
          rintro e w1 ⟨rfl, b1⟩
          have HB1 := Lib.hid (HB.out.trans (b1.mono HB.out.size))
          clear b1
          go_wp2
          go_ret2
          rw [HF.out, mk_list]
          exact ⟨rfl, HB1.out⟩
        · have hk0 : ((k : Int) == 0) = false := beq_eq_false_iff_ne.2 (fun e => hD (HKE.out.1 (by omega)))
          have HF := Lib.hid (RN.out hD hr)
          rw [hr] at PN
          simp only [Option.getD_none, Option.isSome_none] at PN
          clear hD hr
          go_wp2_with fail
          refine (Calls.mono (PN.out _)) ?_
          rintro e w1 ⟨rfl, b1⟩
          have HB1 := Lib.hid (HB.out.trans (b1.mono HB.out.size))
          clear b1
          go_wp2
          go_ret2
          rw [HF.out]
          exact ⟨rfl, HB1.out⟩
        · have hk0 : ((k : Int) == 0) = false := beq_eq_false_iff_ne.2 (fun e => hD (HKE.out.1 (by omega)))
          have HF := Lib.hid (RS.out n hD hr)
          rw [hr] at PN
          simp only [Option.getD_some, Option.isSome_some] at PN
          clear hD hr
          go_wp2_with fail
          refine (Calls.mono (PN.out _)) ?_
          rintro e w1 ⟨rfl, b1⟩
          have HB1 := Lib.hid (HB.out.trans (b1.mono HB.out.size))
          clear b1
          go_wp2_with fail
          go_quiet (fail)
          go_wp2
          go_ret2
          rw [HF.out]
          exact ⟨(show Ending.returned (.tuple #[.int .i64 n, .string (s.extract k s.size)]) = _ from by rw [HFR.out]), below_drewN HB1.out _⟩
      · have hk1 : (k : Int) < (s.size : Int) := by omega
        have hd1 : decide ((48 : Int) ≤ (s[k].toNat : Int)) = false := decide_eq_false (by omega)
        rcases hrs with hD | ⟨hD, hr | ⟨n, hr⟩⟩
        · have hk0 : ((k : Int) == 0) = true := by have := HKE.out.2 hD; subst this; rfl
          have HF := Lib.hid (RE.out hD)
          clear hD
          go_wp2_with fail
          refine (Calls.mono (PN.out _)) ?_
          rintro e w1 ⟨rfl, b1⟩
          have HB1 := Lib.hid (HB.out.trans (b1.mono HB.out.size))
          clear b1
          go_wp2
          go_ret2
          rw [HF.out, mk_list]
          exact ⟨rfl, HB1.out⟩
        · have hk0 : ((k : Int) == 0) = false := beq_eq_false_iff_ne.2 (fun e => hD (HKE.out.1 (by omega)))
          have HF := Lib.hid (RN.out hD hr)
          rw [hr] at PN
          simp only [Option.getD_none, Option.isSome_none] at PN
          clear hD hr
          go_wp2_with fail
          refine (Calls.mono (PN.out _)) ?_
          rintro e w1 ⟨rfl, b1⟩
          have HB1 := Lib.hid (HB.out.trans (b1.mono HB.out.size))
          clear b1
          go_wp2
          go_ret2
          rw [HF.out]
          exact ⟨rfl, HB1.out⟩
        · have hk0 : ((k : Int) == 0) = false := beq_eq_false_iff_ne.2 (fun e => hD (HKE.out.1 (by omega)))
          have HF := Lib.hid (RS.out n hD hr)
          rw [hr] at PN
          simp only [Option.getD_some, Option.isSome_some] at PN
          clear hD hr
          go_wp2_with fail
          refine (Calls.mono (PN.out _)) ?_
          rintro e w1 ⟨rfl, b1⟩
          have HB1 := Lib.hid (HB.out.trans (b1.mono HB.out.size))
          clear b1
          go_wp2_with fail
          go_quiet (fail)
          go_wp2
          go_ret2
          rw [HF.out]
          exact ⟨(show Ending.returned (.tuple #[.int .i64 n, .string (s.extract k s.size)]) = _ from by rw [HFR.out]), below_drewN HB1.out _⟩
      · have hk1 : (k : Int) < (s.size : Int) := by omega
        have hd1 : decide ((48 : Int) ≤ (s[k].toNat : Int)) = true := decide_eq_true h48
        have hd2 : decide ((s[k].toNat : Int) ≤ 57) = false := decide_eq_false (by omega)
        rcases hrs with hD | ⟨hD, hr | ⟨n, hr⟩⟩
        · have hk0 : ((k : Int) == 0) = true := by have := HKE.out.2 hD; subst this; rfl
          have HF := Lib.hid (RE.out hD)
          clear hD
          go_wp2_with fail
          refine (Calls.mono (PN.out _)) ?_
          rintro e w1 ⟨rfl, b1⟩
          have HB1 := Lib.hid (HB.out.trans (b1.mono HB.out.size))
          clear b1
          go_wp2
          go_ret2
          rw [HF.out, mk_list]
          exact ⟨rfl, HB1.out⟩
        · have hk0 : ((k : Int) == 0) = false := beq_eq_false_iff_ne.2 (fun e => hD (HKE.out.1 (by omega)))
          have HF := Lib.hid (RN.out hD hr)
          rw [hr] at PN
          simp only [Option.getD_none, Option.isSome_none] at PN
          clear hD hr
          go_wp2_with fail
          refine (Calls.mono (PN.out _)) ?_
          rintro e w1 ⟨rfl, b1⟩
          have HB1 := Lib.hid (HB.out.trans (b1.mono HB.out.size))
          clear b1
          go_wp2
          go_ret2
          rw [HF.out]
          exact ⟨rfl, HB1.out⟩
        · have hk0 : ((k : Int) == 0) = false := beq_eq_false_iff_ne.2 (fun e => hD (HKE.out.1 (by omega)))
          have HF := Lib.hid (RS.out n hD hr)
          rw [hr] at PN
          simp only [Option.getD_some, Option.isSome_some] at PN
          clear hD hr
          go_wp2_with fail
          refine (Calls.mono (PN.out _)) ?_
          rintro e w1 ⟨rfl, b1⟩
          have HB1 := Lib.hid (HB.out.trans (b1.mono HB.out.size))
          clear b1
          go_wp2_with fail
          go_quiet (fail)
          go_wp2
          go_ret2
          rw [HF.out]
          exact ⟨(show Ending.returned (.tuple #[.int .i64 n, .string (s.extract k s.size)]) = _ from by rw [HFR.out]), below_drewN HB1.out _⟩
end WordS
end Go.Proofs.YtiilopfhlmeaoaaGreatDoor

/-
  SplitByte, the model's and the program's: the parts 'SplitM.spB'.
-/
namespace Go.Proofs.YtiilopfhlmeaoaaGreatDoor
open Go.RowKit
namespace SplitS
open SplitM

/-- What the loop knows at place k, the part begun at f. -/
def Inv (c : UInt8) (l : List UInt8) (k f : Nat) (done : List (List UInt8)) : Prop :=
  f ≤ k ∧ ((k ≤ l.length ∧ done ++ sp c (l.drop f) = sp c l ∧ c ∉ (l.drop f).take (k - f)) ∨ (k = l.length + 1 ∧ done = sp c l))

theorem inv_start (c : UInt8) (l : List UInt8) : Inv c l 0 0 [] := ⟨Nat.le_refl _, Or.inl ⟨Nat.zero_le _, by simp, by simp⟩⟩

theorem take_next (l : List UInt8) (f k : Nat) (hf : f ≤ k) (hk : k < l.length) : (l.drop f).take (k + 1 - f) = (l.drop f).take (k - f) ++ [l[k]] := by
  rw [show k + 1 - f = (k - f) + 1 by omega, List.take_add_one]
  congr 1
  rw [List.getElem?_drop, show f + (k - f) = k by omega, List.getElem?_eq_getElem hk]; rfl

theorem inv_miss {c : UInt8} {l : List UInt8} {k f : Nat} {done : List (List UInt8)} (h : Inv c l k f done) (hk : k < l.length) (hne : l[k] ≠ c) : Inv c l (k + 1) f done := by
  obtain ⟨hf, h | h⟩ := h
  · obtain ⟨_, h1, h2⟩ := h
    refine ⟨by omega, Or.inl ⟨by omega, h1, ?_⟩⟩
    rw [take_next l f k hf hk, List.mem_append]
    rintro (h | h)
    · exact h2 h
    · exact hne (List.mem_singleton.1 h).symm
  · omega

theorem inv_hit {c : UInt8} {l : List UInt8} {k f : Nat} {done : List (List UInt8)} (h : Inv c l k f done) (hk : k < l.length) (he : l[k] = c) : Inv c l (k + 1) (k + 1) (done ++ [(l.drop f).take (k - f)]) := by
  obtain ⟨hf, h | h⟩ := h
  · obtain ⟨_, h1, h2⟩ := h
    refine ⟨Nat.le_refl _, Or.inl ⟨by omega, ?_, by simp⟩⟩
    have e : l.drop f = (l.drop f).take (k - f) ++ c :: l.drop (k + 1) := by
      conv => lhs; rw [← List.take_append_drop (k - f) (l.drop f)]
      rw [List.drop_drop, show f + (k - f) = k by omega, List.drop_eq_getElem_cons hk, he]
    rw [e, sp_hit c _ _ h2] at h1
    rw [List.append_assoc]
    exact h1
  · omega

theorem inv_last {c : UInt8} {l : List UInt8} {n f : Nat} {done : List (List UInt8)} (hn : l.length = n) (h : Inv c l n f done) : Inv c l (n + 1) (n + 1) (done ++ [(l.drop f).take (n - f)]) := by
  subst hn
  obtain ⟨hf, h | h⟩ := h
  · obtain ⟨_, h1, h2⟩ := h
    have e : (l.drop f).take (l.length - f) = l.drop f := List.take_of_length_le (by simp)
    rw [e] at h2 ⊢
    rw [sp_none c _ h2] at h1
    exact ⟨Nat.le_refl _, Or.inr ⟨rfl, h1⟩⟩
  · omega

theorem inv_end {c : UInt8} {l : List UInt8} {n f : Nat} {done : List (List UInt8)} (hn : l.length = n) (h : Inv c l (n + 1) f done) : done = sp c l := by
  subst hn
  obtain ⟨hf, h | h⟩ := h
  · omega
  · exact h.2

theorem inv_count {c : UInt8} {l : List UInt8} {k f : Nat} {done : List (List UInt8)} (h : Inv c l k f done) : done.length ≤ l.length + 1 := by
  have := sp_length_le c l
  obtain ⟨hf, ⟨_, h1, _⟩ | ⟨_, h1⟩⟩ := h
  · have h2 := congrArg List.length h1
    simp only [List.length_append] at h2
    omega
  · rw [h1]; exact this

theorem stringInfo : (Tryz.prog.info? 9).map (fun i => (i.zero, i.size, i.bytes)) = some (some (.string ByteArray.empty), 1, 16) := by kernel_rfl

def Post (c : UInt8) (s : ByteArray) (w : World) (e : Ending) (w' : World) : Prop :=
  ∃ A cap, e = .returned (.slice A (spB c s).length cap) ∧ StrK.SRow w' A (spB c s) ∧ StrK.Free w' A (spB c s).length ∧ Below w.heap.size w w' ∧ (∀ a, A = some a → w.heap.size ≤ a.block) ∧ (spB c s).length ≤ cap

set_option maxHeartbeats 1000000 in
set_option maxRecDepth 100000 in
theorem spec (s : ByteArray) (c : UInt8) (hs : s.size ≤ 1048576) (w : World) :
    Calls Tryz.prog 24 #[.string s, .int .u8 (c.toNat : Int)] w (Post c s w) := by
  obtain ⟨i0, hi, hz0, hz1, hz2⟩ := info_parts stringInfo
  go_enter Tryz.func24, Tryz.ntmps24
  go_wp2
  go_loopw [5, 6, 7] (fun v x i wr => ∃ (k f : Nat) (done : List ByteArray), k ≤ s.size + 1 ∧ f ≤ s.size + 1 ∧ f ≤ k ∧ i = .int .i64 k ∧ x = .int .i64 f ∧ Hid (Inv c s.data.toList k f (done.map (·.data.toList))) ∧
      wr.ownsRow w.heap.size 9 1 v done.length (done.map Value.string) ∧ Below w.heap.size w wr) (fun _ _ i _ => s.size + 1 - (intOf i).toNat)
  case atStart => exact ⟨0, 0, [], by omega, by omega, by omega, rfl, rfl, inv_start _ _, ⟨by simp, Or.inr ⟨_, 0, #[], rfl, Nat.le_refl _, heap_alloc_new _ _, by simp, by simp, by simp, by simp⟩⟩, (Below.refl _ _).alloc (Nat.le_refl _) _⟩
  case round =>
    obtain ⟨k, f, done, hk, hf, hfk, rfl, rfl, hinv, hown, hb⟩ := hrel
    have hcnt : done.length ≤ s.size + 1 := by simpa using inv_count hinv.out
    have hsz := hb.size
    by_cases hend : k = s.size + 1
    · subst hend
      go_wp2
      go_ret
      have hfin : done = spB c s := pieces_inj (by rw [spB_data]; exact inv_end (by simp) hinv.out)
      subst hfin
      obtain ⟨A, cap, rfl, h1, h2, h3, h4⟩ := StrK.of_own hown
      exact ⟨A, cap, rfl, h1, h2, hb, h3, h4⟩
    · by_cases hlast : k = s.size
      · subst hlast
        go_wp2_with (at_builtin; refine wpList_append_own _ rfl (.tmp 26) (.tmp 31) 34 rfl w.heap.size 9 i0 (.string ByteArray.empty) 1 16 Tryz.underlying34 hi hz0 hz1 hz2 rfl (by decide) _ _ _ rfl (hown.alloc _) ⟨wr.heap.size, 0, none⟩ 1 1 [.string (s.extract f s.size)] rfl rfl (cell_one_new _ _ _) (by simp [Value.oneCell']) (by unfold maxLen; omega) (by omega) (by simp <;> omega) ?_; intro v1 w1 hown1 hgrow _)
        have hb1 : Below w.heap.size w w1 := (hb.alloc hb.size _).grown hgrow (by simp <;> omega) (fun j hj => (hown.lt j hj).1)
        have hinv1 : Hid (Inv c s.data.toList (s.size + 1) (s.size + 1) ((done ++ [s.extract f s.size]).map (·.data.toList))) := by
          have h := inv_last (by simp) hinv.out
          rw [List.map_append, List.map_cons, List.map_nil, Lib.extract_data]
          exact h
        have hown2 : w1.ownsRow w.heap.size 9 1 v1 (done ++ [s.extract f s.size]).length ((done ++ [s.extract f s.size]).map Value.string) := by simpa using hown1
        clear hown1 hown hinv
        go_wp2
        go_roundw
        case rel => exact ⟨s.size + 1, s.size + 1, done ++ [s.extract f s.size], by omega, by omega, by omega, by go_num, by go_num, hinv1, hown2, hb1⟩
        case measure => simp [intOf] <;> omega
      · have hlt : k < s.size := by omega
        by_cases hhit : s[k] = c
        · have hh : ((s[k].toNat : Int) == (c.toNat : Int)) = true := by rw [hhit]; simp
          have hl : (s.data.toList[k]'(by simpa using hlt)) = c := hhit
          have HL := Lib.hid hl
          clear hl hhit
          go_wp2_with (at_builtin; refine wpList_append_own _ rfl (.tmp 26) (.tmp 31) 34 rfl w.heap.size 9 i0 (.string ByteArray.empty) 1 16 Tryz.underlying34 hi hz0 hz1 hz2 rfl (by decide) _ _ _ rfl (hown.alloc _) ⟨wr.heap.size, 0, none⟩ 1 1 [.string (s.extract f k)] rfl rfl (cell_one_new _ _ _) (by simp [Value.oneCell']) (by unfold maxLen; omega) (by omega) (by simp <;> omega) ?_; intro v1 w1 hown1 hgrow _)
          have hb1 : Below w.heap.size w w1 := (hb.alloc hb.size _).grown hgrow (by simp <;> omega) (fun j hj => (hown.lt j hj).1)
          have hinv1 : Hid (Inv c s.data.toList (k + 1) (k + 1) ((done ++ [s.extract f k]).map (·.data.toList))) := by
            have h := inv_hit hinv.out (by simpa using hlt) HL.out
            rw [List.map_append, List.map_cons, List.map_nil, Lib.extract_data]
            exact h
          have hown2 : w1.ownsRow w.heap.size 9 1 v1 (done ++ [s.extract f k]).length ((done ++ [s.extract f k]).map Value.string) := by simpa using hown1
          clear hown1 hown hinv
          go_wp2
          go_roundw
          case rel => exact ⟨k + 1, k + 1, done ++ [s.extract f k], by omega, by omega, by omega, by go_num, by go_num, hinv1, hown2, hb1⟩
          case measure => simp [intOf] <;> omega
        · have hh : ((s[k].toNat : Int) == (c.toNat : Int)) = false := by
            rw [beq_eq_false_iff_ne]
            intro h
            exact hhit (UInt8.toNat_inj.1 (by omega))
          have hinv1 := Lib.hid (inv_miss hinv.out (by simpa using hlt) hhit)
          clear hhit hinv
          go_wp2
          go_roundw
          case rel => exact ⟨k + 1, f, done, by omega, by omega, by omega, by go_num, rfl, hinv1.out, hown, hb⟩
          case measure => simp [intOf] <;> omega

/-- The library's variable that its searches read holds an integer. -/
def Var (w : World) : Prop := ∃ m, w.cell? ⟨0, 0, none⟩ = some (.int .i64 m)
theorem Var.of_shaped {w : World} (h : w.ShapedOpen Tryz.prog) : Var w := Tryz.laysM146.s1_3 w h
theorem Var.below {w w' : World} (h : Var w) (hb : Below w.heap.size w w') : Var w' := by
  obtain ⟨m, hm⟩ := h
  have hlt := World.block_lt_of_cell? w _ hm
  exact ⟨m, by rw [hb.cell (by exact hlt)]; exact hm⟩

end SplitS
end Go.Proofs.YtiilopfhlmeaoaaGreatDoor
