import Derived.Test.YtjjhpabmhnincaaGreatDoorFmtSpec
import Derived.Test.YtjjhpabmhnincaaGreatDoorArgMath2
import Derived.Lib.Hide
import Derived.Lib.IndexBytes
import Derived.Lib.Strings
/-
  spec.l1Read, spec.ParseNumber, spec.ParseInt: the integer whose numeral the text is, and true; or 0 and false.
-/
namespace Go.Proofs.YtjjhpabmhnincaaGreatDoor
open Go.RowKit
namespace ReadS

/-- The two results, as the model hands them back. -/
def out (r : Option Int) : Value := .tuple #[.int .i64 (r.getD 0), .bool r.isSome]

theorem getElem_list (s : ByteArray) (k : Nat) (h : k < s.size) : s.data.toList[k]? = some s[k] := by
  rw [List.getElem?_eq_getElem (by simpa using h)]; rfl

theorem digit_some {b : UInt8} (h1 : 48 ≤ (b.toNat : Int)) (h2 : (b.toNat : Int) ≤ 57) : Lib.digitVal b = some (b.toNat - 48) := by
  unfold Lib.digitVal
  rw [if_pos (by omega)]
theorem digit_none {b : UInt8} (h : (b.toNat : Int) < 48 ∨ 57 < (b.toNat : Int)) : Lib.digitVal b = none := by
  unfold Lib.digitVal
  rw [if_neg (by omega)]

theorem l1r_len {most : Nat} {l : List UInt8} (h : (NumM.body l).length < 1 ∨ most < (NumM.body l).length) : NumM.l1r most l = none := by
  unfold NumM.l1r
  rw [if_pos h]
theorem l1r_stop {most : Nat} {l : List UInt8} (h : Lib.decFrom 0 (NumM.body l) = none) : NumM.l1r most l = none := by
  unfold NumM.l1r
  split
  · rfl
  · rw [h]
theorem l1r_val {most : Nat} {l : List UInt8} {v : Nat} (hl : 1 ≤ (NumM.body l).length ∧ (NumM.body l).length ≤ most) (h : Lib.decFrom 0 (NumM.body l) = some v) :
    NumM.l1r most l = if Lib.itoa (NumM.signed l v) = l then some (NumM.signed l v) else none := by
  unfold NumM.l1r
  rw [if_neg (by omega), h]

set_option maxHeartbeats 400000 in
set_option maxRecDepth 100000 in
theorem empty (s : ByteArray) (most : Nat) (_h1 : 1 ≤ most) (_h2 : most ≤ 12) (hne : s.size = 0) (w : World) :
    Calls Tryz.prog 107 #[.string s, .int .i64 most] w fun e w' => e = .returned (out (NumM.l1r most s.data.toList)) ∧ Below w.heap.size w w' := by
  have hsz : s.size ≤ 0 := by omega
  have hfin : NumM.l1r most s.data.toList = none := by
    have e : s.data.toList = [] := List.eq_nil_of_length_eq_zero (by simpa using hne)
    rw [e]
    exact l1r_len (Or.inl (by simp [NumM.body]))
  have HFIN := Lib.hid hfin
  clear hfin hne
  go_enter Tryz.func107, Tryz.ntmps107
  go_wp2
  go_ret2
  exact ⟨by rw [HFIN.out]; rfl, Below.refl _ _⟩

set_option maxHeartbeats 400000 in
set_option maxRecDepth 100000 in
theorem pos_long (s : ByteArray) (most : Nat) (_h1 : 1 ≤ most) (_h2 : most ≤ 12) (hsz : s.size ≤ 1048576) (hne : 0 < s.size) (h45 : ((s[0].toNat : Int) == 45) = false) (hbody : NumM.body s.data.toList = s.data.toList) (hlong : most < s.size) (w : World) :
    Calls Tryz.prog 107 #[.string s, .int .i64 most] w fun e w' => e = .returned (out (NumM.l1r most s.data.toList)) ∧ Below w.heap.size w w' := by
  have hfin : NumM.l1r most s.data.toList = none := l1r_len (Or.inr (by rw [hbody]; simpa using hlong))
  have HFIN := Lib.hid hfin
  clear hfin hbody
  go_enter Tryz.func107, Tryz.ntmps107
  go_wp2
  go_ret2
  exact ⟨by rw [HFIN.out]; rfl, Below.refl _ _⟩

set_option maxHeartbeats 1000000 in
set_option maxRecDepth 100000 in
theorem pos_short (s : ByteArray) (most : Nat) (h1 : 1 ≤ most) (h2 : most ≤ 12) (hne : 0 < s.size) (h45 : ((s[0].toNat : Int) == 45) = false) (hbody : NumM.body s.data.toList = s.data.toList) (hsg : ∀ v, NumM.signed s.data.toList v = (v : Int)) (hlong : s.size ≤ most) (w : World) :
    Calls Tryz.prog 107 #[.string s, .int .i64 most] w fun e w' => e = .returned (out (NumM.l1r most s.data.toList)) ∧ Below w.heap.size w w' := by
  have HBODY := Lib.hid hbody
  have hsz : s.size ≤ 12 := by omega
  have HSGN : ∀ {v}, Hid (NumM.signed s.data.toList v = (v : Int)) := fun {v} => hsg v
  clear hbody hsg
  have hml : decide (most < s.size) = false := by simpa using hlong
  have hm1 : decide ((s.size : Int) < 1) = false := by simp; omega
  go_enter Tryz.func107, Tryz.ntmps107
  go_wp2
  go_loopw [8, 9] (fun n i wr => ∃ k acc : Nat, k ≤ s.size ∧ i = .int .i64 k ∧ n = .int .i64 acc ∧ Hid (Lib.decFrom 0 (s.data.toList.take k) = some acc) ∧ acc < 100000000000000000 ∧ w = wr) (fun _ i _ => s.size - (intOf i).toNat)
  case atStart => exact ⟨0, 0, Nat.zero_le _, rfl, rfl, rfl, by omega, rfl⟩
  case round =>
    obtain ⟨k, acc, hk, rfl, rfl, hdec, hacc, rfl⟩ := hrel
    by_cases hlt : k < s.size
    · have hb := getElem_list s k hlt
      have HB := Lib.hid hb
      clear hb
      by_cases hlo : 48 ≤ (s[k].toNat : Int)
      · by_cases hhi : (s[k].toNat : Int) ≤ 57
        · have hstep := Lib.hid (Lib.decFrom_take s.data.toList k 0 acc _ _ hdec.out HB.out (digit_some hlo hhi))
          have hbd := Lib.hid (Lib.decFrom_take_lt hstep.out (by omega))
          go_wp2
          go_roundw
          case rel => exact ⟨k + 1, acc * 10 + (s[k].toNat - 48), by omega, by go_num, congrArg (Value.int .i64) (by omega), hstep, hbd.out, trivial⟩
          case measure => simp [intOf]; omega
        · have hst := Lib.hid (l1r_stop (most := most) (NumM.decFrom_stop (k := k) (by rw [HBODY.out]; exact HB.out) (digit_none (Or.inr (by omega)))))
          go_wp2
          go_ret2
          exact ⟨by rw [hst.out]; rfl, Below.refl _ _⟩
      · have hst := Lib.hid (l1r_stop (most := most) (NumM.decFrom_stop (k := k) (by rw [HBODY.out]; exact HB.out) (digit_none (Or.inl (by omega)))))
        go_wp2
        go_ret2
        exact ⟨by rw [hst.out]; rfl, Below.refl _ _⟩
    · obtain rfl : k = s.size := by omega
      have hall := hdec.out
      rw [List.take_of_length_le (by simp)] at hall
      have hval := l1r_val (most := most) (l := s.data.toList) (v := acc) (by rw [HBODY.out]; simp; omega) (by rw [HBODY.out]; exact hall)
      rw [HSGN.out] at hval
      have HVAL := Lib.hid hval
      clear hval hall hdec
      by_cases heq : Lib.itoa ((acc : Int)) = s.data.toList
      · have hs : (Lib.itoa ((acc : Int)) == s.toList) = true := by rw [heq, ByteArray.toList_eq]; simp
        have hfin : NumM.l1r most s.data.toList = some ((acc : Int)) := by rw [HVAL.out, if_pos heq]
        have HFIN := Lib.hid hfin
        clear heq hfin
        go_wp2_with fail
        refine (FmtS.any ((acc : Int)) (by omega) (by omega) _).mono ?_
        rintro e w1 ⟨rfl, hb1⟩
        go_wp2
        go_ret2
        exact ⟨by rw [HFIN.out]; rfl, hb1⟩
      · have hs : (Lib.itoa ((acc : Int)) == s.toList) = false := by rw [ByteArray.toList_eq]; simpa using heq
        have hfin : NumM.l1r most s.data.toList = none := by rw [HVAL.out, if_neg heq]
        have HFIN := Lib.hid hfin
        clear heq hfin
        go_wp2_with fail
        refine (FmtS.any ((acc : Int)) (by omega) (by omega) _).mono ?_
        rintro e w1 ⟨rfl, hb1⟩
        go_wp2
        go_ret2
        exact ⟨by rw [HFIN.out]; rfl, hb1⟩

set_option maxHeartbeats 400000 in
set_option maxRecDepth 100000 in
theorem neg_long (s : ByteArray) (most : Nat) (_h1 : 1 ≤ most) (_h2 : most ≤ 12) (hsz : s.size ≤ 1048576) (hne : 0 < s.size) (h45 : ((s[0].toNat : Int) == 45) = true) (hbody : NumM.body s.data.toList = s.data.toList.drop 1) (hlong : s.size - 1 < 1 ∨ most < s.size - 1) (w : World) :
    Calls Tryz.prog 107 #[.string s, .int .i64 most] w fun e w' => e = .returned (out (NumM.l1r most s.data.toList)) ∧ Below w.heap.size w w' := by
  have hfin : NumM.l1r most s.data.toList = none := l1r_len (by rw [hbody]; simpa using hlong)
  have HFIN := Lib.hid hfin
  clear hfin hbody
  by_cases hone : s.size - 1 < 1
  · clear hlong
    go_enter Tryz.func107, Tryz.ntmps107
    go_wp2
    go_ret2
    exact ⟨by rw [HFIN.out]; rfl, Below.refl _ _⟩
  · have hl := hlong.resolve_left hone
    clear hlong
    go_enter Tryz.func107, Tryz.ntmps107
    go_wp2
    go_ret2
    exact ⟨by rw [HFIN.out]; rfl, Below.refl _ _⟩

set_option maxHeartbeats 1000000 in
set_option maxRecDepth 100000 in
theorem neg_short (s : ByteArray) (most : Nat) (h1 : 1 ≤ most) (h2 : most ≤ 12) (hne : 2 ≤ s.size) (h45 : ((s[0].toNat : Int) == 45) = true) (hbody : NumM.body s.data.toList = s.data.toList.drop 1) (hsg : ∀ v, NumM.signed s.data.toList v = -(v : Int)) (hlong : s.size - 1 ≤ most) (w : World) :
    Calls Tryz.prog 107 #[.string s, .int .i64 most] w fun e w' => e = .returned (out (NumM.l1r most s.data.toList)) ∧ Below w.heap.size w w' := by
  have HBODY' : Hid (NumM.body s.data.toList = (s.extract 1 s.size).data.toList) := by rw [Lib.extract_to_end]; exact hbody
  have hT : Hid ((s.extract 1 s.size).size = s.size - 1) := by simp [Hid]
  have hsz : s.size ≤ 13 := by omega
  have HSGN : ∀ {v}, Hid (NumM.signed s.data.toList v = -(v : Int)) := fun {v} => hsg v
  clear hbody hsg
  have hml : decide (most < s.size - 1) = false := by simpa using hlong
  have hm1 : decide (((s.size - 1 : Nat) : Int) < 1) = false := by simp; omega
  go_enter Tryz.func107, Tryz.ntmps107
  go_wp2
  generalize s.extract 1 s.size = t at *
  have HBODY := HBODY'
  have hts : t.size ≤ 12 := by have := hT.out; omega
  have hts1 : 1 ≤ t.size := by have := hT.out; omega
  have hts2 : t.size ≤ most := by have := hT.out; omega
  go_loopw [8, 9] (fun n i wr => ∃ k acc : Nat, k ≤ t.size ∧ i = .int .i64 k ∧ n = .int .i64 acc ∧ Hid (Lib.decFrom 0 (t.data.toList.take k) = some acc) ∧ acc < 100000000000000000 ∧ w = wr) (fun _ i _ => t.size - (intOf i).toNat)
  case atStart => exact ⟨0, 0, Nat.zero_le _, rfl, rfl, rfl, by omega, rfl⟩
  case round =>
    obtain ⟨k, acc, hk, rfl, rfl, hdec, hacc, rfl⟩ := hrel
    by_cases hlt : k < t.size
    · have hb := getElem_list t k hlt
      have HB := Lib.hid hb
      clear hb
      by_cases hlo : 48 ≤ (t[k].toNat : Int)
      · by_cases hhi : (t[k].toNat : Int) ≤ 57
        · have hstep := Lib.hid (Lib.decFrom_take t.data.toList k 0 acc _ _ hdec.out HB.out (digit_some hlo hhi))
          have hbd := Lib.hid (Lib.decFrom_take_lt hstep.out (by omega))
          go_wp2
          go_roundw
          case rel => exact ⟨k + 1, acc * 10 + (t[k].toNat - 48), by omega, by go_num, congrArg (Value.int .i64) (by omega), hstep, hbd.out, trivial⟩
          case measure => simp [intOf]; omega
        · have hst := Lib.hid (l1r_stop (most := most) (NumM.decFrom_stop (k := k) (by rw [HBODY.out]; exact HB.out) (digit_none (Or.inr (by omega)))))
          go_wp2
          go_ret2
          exact ⟨by rw [hst.out]; rfl, Below.refl _ _⟩
      · have hst := Lib.hid (l1r_stop (most := most) (NumM.decFrom_stop (k := k) (by rw [HBODY.out]; exact HB.out) (digit_none (Or.inl (by omega)))))
        go_wp2
        go_ret2
        exact ⟨by rw [hst.out]; rfl, Below.refl _ _⟩
    · obtain rfl : k = t.size := by omega
      have hall := hdec.out
      rw [List.take_of_length_le (by simp)] at hall
      have hval := l1r_val (most := most) (l := s.data.toList) (v := acc) (by rw [HBODY.out]; simp; omega) (by rw [HBODY.out]; exact hall)
      rw [HSGN.out] at hval
      have HVAL := Lib.hid hval
      clear hval hall hdec
      by_cases heq : Lib.itoa (-(acc : Int)) = s.data.toList
      · have hs : (Lib.itoa (-(acc : Int)) == s.toList) = true := by rw [heq, ByteArray.toList_eq]; simp
        have hfin : NumM.l1r most s.data.toList = some (-(acc : Int)) := by rw [HVAL.out, if_pos heq]
        have HFIN := Lib.hid hfin
        clear heq hfin
        go_wp2_with fail
        refine (FmtS.any (-(acc : Int)) (by omega) (by omega) _).mono ?_
        rintro e w1 ⟨rfl, hb1⟩
        go_wp2
        go_ret2
        exact ⟨by rw [HFIN.out]; rfl, hb1⟩
      · have hs : (Lib.itoa (-(acc : Int)) == s.toList) = false := by rw [ByteArray.toList_eq]; simpa using heq
        have hfin : NumM.l1r most s.data.toList = none := by rw [HVAL.out, if_neg heq]
        have HFIN := Lib.hid hfin
        clear heq hfin
        go_wp2_with fail
        refine (FmtS.any (-(acc : Int)) (by omega) (by omega) _).mono ?_
        rintro e w1 ⟨rfl, hb1⟩
        go_wp2
        go_ret2
        exact ⟨by rw [HFIN.out]; rfl, hb1⟩

/-- L1READ, at every text: what 'l1r' says. -/
theorem any (s : ByteArray) (most : Nat) (h1 : 1 ≤ most) (h2 : most ≤ 12) (hsz : s.size ≤ 1048576) (w : World) :
    Calls Tryz.prog 107 #[.string s, .int .i64 most] w fun e w' => e = .returned (out (NumM.l1r most s.data.toList)) ∧ Below w.heap.size w w' := by
  by_cases h0 : s.size = 0
  · exact empty s most h1 h2 h0 w
  · have hne : 0 < s.size := by omega
    have hl : s.data.toList[0]? = some s[0] := getElem_list s 0 hne
    have hd : s.data.toList.head? = some s[0] := by rw [List.head?_eq_getElem?]; exact hl
    by_cases h45 : s[0] = 45
    · have hbody : NumM.body s.data.toList = s.data.toList.drop 1 := by
        rw [NumM.body, hd, if_pos (by rw [h45]), List.drop_one]
      have hsg : ∀ v, NumM.signed s.data.toList v = -(v : Int) := fun v => by rw [NumM.signed, hd, if_pos (by rw [h45])]
      have hb : ((s[0].toNat : Int) == 45) = true := by rw [h45]; rfl
      by_cases hs : s.size - 1 < 1 ∨ most < s.size - 1
      · exact neg_long s most h1 h2 hsz hne hb hbody hs w
      · exact neg_short s most h1 h2 (by omega) hb hbody hsg (by omega) w
    · have hn : ¬ some s[0] = some (45 : UInt8) := fun h => h45 (Option.some.inj h)
      have hbody : NumM.body s.data.toList = s.data.toList := by rw [NumM.body, hd, if_neg hn]
      have hsg : ∀ v, NumM.signed s.data.toList v = (v : Int) := fun v => by rw [NumM.signed, hd, if_neg hn]
      have hb : ((s[0].toNat : Int) == 45) = false := by
        rw [beq_eq_false_iff_ne]
        intro h
        exact h45 (UInt8.toNat_inj.1 (by have : (45 : UInt8).toNat = 45 := rfl; omega))
      by_cases hs : most < s.size
      · exact pos_long s most h1 h2 hsz hne hb hbody hs w
      · exact pos_short s most h1 h2 hne hb hbody hsg (by omega) w

theorem rd_int (l : List UInt8) : NumM.l1r 12 l = NumM.rd (-999999999999) 999999999999 l := NumM.l1r_eq 11 l

theorem rd_number (l : List UInt8) : NumM.rd 0 999999 l = match NumM.l1r 6 l with | some n => if n < 0 then none else some n | none => none := by
  rw [NumM.l1r_eq 5 l]
  cases h : NumM.rd (-(10 ^ (5 + 1) : Nat) + 1) ((10 ^ (5 + 1) : Nat) - 1) l with
  | none =>
    rw [NumM.rd_none] at h ⊢
    intro n a b
    exact h n (by omega) (by omega)
  | some n =>
    obtain ⟨a, b, c⟩ := NumM.rd_some.1 h
    simp only
    split
    · rename_i hn
      refine NumM.rd_none.2 fun m x y e => ?_
      have := NumM.itoa_inj (e.trans c.symm)
      omega
    · exact NumM.rd_some.2 ⟨by omega, by omega, c⟩

set_option maxHeartbeats 400000 in
set_option maxRecDepth 100000 in
/-- SPEC.PARSENUMBER. -/
theorem parseNumber (s : ByteArray) (hsz : s.size ≤ 1048576) (w : World) :
    Calls Tryz.prog 79 #[.string s] w fun e w' => e = .returned (out (NumM.rd 0 999999 s.data.toList)) ∧ Below w.heap.size w w' := by
  rw [rd_number]
  have C := Lib.hid (any s 6 (by omega) (by omega) hsz)
  cases hr : NumM.l1r 6 s.data.toList with
  | none =>
    rw [hr] at C
    clear hr
    go_enter Tryz.func79, Tryz.ntmps79
    go_wp2_with fail
    refine (Calls.mono (C.out _)) ?_
    rintro e w1 ⟨rfl, hb1⟩
    simp only [out]
    go_wp2
    go_ret2
    exact ⟨rfl, hb1⟩
  | some n =>
    rw [hr] at C
    clear hr
    by_cases hn : n < 0
    · go_enter Tryz.func79, Tryz.ntmps79
      go_wp2_with fail
      refine (Calls.mono (C.out _)) ?_
      rintro e w1 ⟨rfl, hb1⟩
      simp only [out]
      go_wp2
      go_ret2
      exact ⟨rfl, hb1⟩
    · go_enter Tryz.func79, Tryz.ntmps79
      go_wp2_with fail
      refine (Calls.mono (C.out _)) ?_
      rintro e w1 ⟨rfl, hb1⟩
      simp only [out]
      go_wp2
      go_ret2
      exact ⟨rfl, hb1⟩

end ReadS
end Go.Proofs.YtjjhpabmhnincaaGreatDoor
