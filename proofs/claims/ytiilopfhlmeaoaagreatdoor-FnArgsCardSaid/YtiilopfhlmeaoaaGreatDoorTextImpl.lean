import Derived.Test.YtiilopfhlmeaoaaGreatDoorArgMath2
import Derived.Test.YtiilopfhlmeaoaaGreatDoorFmtImpl
import Derived.WalkKit
import Derived.WalkSpells
import Derived.WalkLawsBesides
import Derived.Lib.Hide
import Derived.Lib.ItoaLen
/-
  The program's text of a linear expression: signs, amounts, terms.
-/
namespace Go.Proofs.YtiilopfhlmeaoaaGreatDoor
open Go.RowKit
namespace TextI
open TextM

theorem size_mk (l : List UInt8) : (ByteArray.mk l.toArray).size = l.length := by show l.toArray.size = _; simp
/-- Two strings joined. -/
theorem add (W : World) (x y : List UInt8) (h : x.length + y.length ≤ 1000000) :
    Sem.run Tryz.prog (Op.stringOp .add ⟨x.toArray⟩ ⟨y.toArray⟩) W = .ok (.string ⟨(x ++ y).toArray⟩) W := by
  rw [run_string_add_sum W _ _ (by rw [size_mk, size_mk]; omega), ByteArray.mk_append_mk]
theorem addN (W : World) (x : List UInt8) (nm : ByteArray) (h : x.length + nm.size ≤ 1000000) :
    Sem.run Tryz.prog (Op.stringOp .add ⟨x.toArray⟩ nm) W = .ok (.string ⟨(x ++ nm.data.toList).toArray⟩) W := by
  have := add W x nm.data.toList (by rw [size_list]; exact h)
  rwa [mk_list] at this
theorem ret_str {a b : List UInt8} (h : a = b) : Ending.returned (.string ⟨a.toArray⟩) = .returned (.string ⟨b.toArray⟩) := by rw [h]
theorem sign (neg first : Bool) (w : World) :
    Calls Tryz.prog 126 #[.bool neg, .bool first] w fun e w' => e = .returned (.string ⟨(sgn neg first).toArray⟩) ∧ w = w' := by
  cases neg <;> cases first
  all_goals
    go_enter Tryz.func126, Tryz.ntmps126
    go_wp2
    go_ret
    exact ⟨rfl, rfl⟩

/-- A numeral within the limits is short. -/
theorem itoa_short (n : Nat) (h : n ≤ 1000000000) : (Lib.itoa (n : Int)).length ≤ 10 := by
  rw [itoa_nat, Lib.decDigits_length]
  exact NumM.pow10_lt_of_digits 9 n (by omega)
theorem word_len (x : Int) (nm : ByteArray) (hx : x.natAbs ≤ 1000000000) (hn : nm.size ≤ 8) : (word x nm).length ≤ 18 := by
  unfold word
  split
  · rw [size_list]; omega
  · have := itoa_short x.natAbs hx
    rw [List.length_append, size_list]; omega
theorem sgn_len (a b : Bool) : (sgn a b).length ≤ 3 := by cases a <;> cases b <;> decide
theorem addT_len (t : List UInt8) (p : TItem) (hx : p.1.natAbs ≤ 1000000000) (hn : p.2.size ≤ 8) : (addT t p).length ≤ t.length + 21 := by
  have h1 := word_len p.1 p.2 hx hn
  have h2 := sgn_len (decide (p.1 < 0)) t.isEmpty
  unfold addT
  simp only [List.length_append]
  omega
theorem addU_len (t : List UInt8) (p : TItem) (hx : p.1.natAbs ≤ 1000000000) (hn : p.2.size ≤ 8) : (addU t p).length ≤ t.length + 21 := by
  unfold addU
  split
  · omega
  · exact addT_len t p hx hn

theorem name_facts {nm : ByteArray} (h : nm.size ≠ 0) : nm.toList.isEmpty = false := by
  rw [ByteArray.toList_eq, List.isEmpty_eq_false_iff]
  intro e
  have := congrArg List.length e
  rw [size_list] at this
  exact h (by simpa using this)
theorem name_none {nm : ByteArray} (h : nm.size = 0) : nm = ByteArray.empty := NameM.toList_inj (by rw [size_zero h]; rfl)

set_option maxHeartbeats 400000 in
set_option maxRecDepth 100000 in
/-- impl.formatAmount. -/
theorem amount (x : Int) (nm : ByteArray) (hx : x.natAbs ≤ 1000000000) (hn : nm.size ≤ 8) (w : World) (htab : FmtI.Pow w) :
    Calls Tryz.prog 127 #[.int .i64 (x.natAbs : Int), .string nm] w fun e w' => e = .returned (.string ⟨(word x nm).toArray⟩) ∧ Below w.heap.size w w' := by
  have FI := Lib.hid (FmtI.any (x.natAbs : Int) (by omega) (by omega) w htab)
  have hl := itoa_short x.natAbs hx
  by_cases h2 : nm.size = 0
  · obtain rfl := name_none h2
    have HW : Hid (word x ByteArray.empty = Lib.itoa (x.natAbs : Int)) := Lib.hid (by rw [word, if_neg (fun h => h.2 h2), empty_list, List.append_nil])
    have had := Lib.hid (fun W => addN W (Lib.itoa (x.natAbs : Int)) ByteArray.empty (by rw [h2]; omega))
    have hcs : (x.natAbs : Int) = 1 ∨ ((x.natAbs : Int) == 1) = false := by
      by_cases h : (x.natAbs : Int) = 1
      · exact Or.inl h
      · exact Or.inr (beq_eq_false_iff_ne.2 h)
    generalize Lib.itoa (x.natAbs : Int) = L at *
    generalize (x.natAbs : Int) = n at *
    have had2 := fun W => had.out W
    simp only [empty_list, List.append_nil] at had2
    clear had h2
    rcases hcs with rfl | hcs
    all_goals
      go_enter Tryz.func127, Tryz.ntmps127
      go_wp2_with fail
      refine (Calls.mono FI.out) ?_
      rintro e w1 ⟨rfl, b1⟩
      go_wp2
      go_ret
      exact ⟨ret_str HW.out.symm, b1⟩
  · have hnf := name_facts h2
    by_cases h1 : x.natAbs = 1
    · have HW : Hid (word x nm = nm.data.toList) := Lib.hid (by rw [word, if_pos ⟨h1, h2⟩])
      rw [h1]
      clear h1 h2 FI
      go_enter Tryz.func127, Tryz.ntmps127
      go_wp2
      go_ret
      exact ⟨(show Ending.returned (.string nm) = _ from by rw [HW.out, mk_list]), Below.refl _ _⟩
    · have HW : Hid (word x nm = Lib.itoa (x.natAbs : Int) ++ nm.data.toList) := Lib.hid (by rw [word, if_neg (fun h => h1 h.1)])
      have h1' : ((x.natAbs : Int) == 1) = false := beq_eq_false_iff_ne.2 (by omega)
      have had := fun W => addN W (Lib.itoa (x.natAbs : Int)) nm (by omega)
      generalize Lib.itoa (x.natAbs : Int) = L at *
      generalize (x.natAbs : Int) = n at *
      clear h1 h2
      go_enter Tryz.func127, Tryz.ntmps127
      go_wp2_with (go_at_call 140; refine (Calls.mono FI.out) ?_; rintro e w1 ⟨rfl, b1⟩)
      go_ret
      exact ⟨ret_str HW.out.symm, b1⟩

set_option maxHeartbeats 400000 in
set_option maxRecDepth 100000 in
/-- impl.formatTerm. -/
theorem term (x : Int) (nm : ByteArray) (first : Bool) (hx : x.natAbs ≤ 1000000000) (hn : nm.size ≤ 8) (w : World) (htab : FmtI.Pow w) :
    Calls Tryz.prog 94 #[.int .i64 x, .string nm, .bool first] w fun e w' => e = .returned (.string ⟨(if x = 0 then [] else sgn (decide (x < 0)) first ++ word x nm).toArray⟩) ∧ Below w.heap.size w w' := by
  by_cases h0 : x = 0
  · subst h0
    go_enter Tryz.func94, Tryz.ntmps94
    go_wp2
    go_ret
    exact ⟨rfl, Below.refl _ _⟩
  · rw [if_neg h0]
    have h0' : (x == 0) = false := beq_eq_false_iff_ne.2 h0
    have AM := Lib.hid (amount x nm hx hn w htab)
    have h1 := word_len x nm hx hn
    have h2 := sgn_len (decide (x < 0)) first
    have SG := Lib.hid (fun W => sign (decide (x < 0)) first W)
    have had := fun W => add W (sgn (decide (x < 0)) first) (word x nm) (by omega)
    generalize word x nm = L at *
    generalize sgn (decide (x < 0)) first = S at *
    have e : (x.natAbs : Int) = max x (-x) := by omega
    rw [e] at AM
    have hx1 : -1000000000 ≤ x := by omega
    have hx2 : x ≤ 1000000000 := by omega
    clear e h0 h1 h2
    go_enter Tryz.func94, Tryz.ntmps94
    go_wp2_with fail
    refine (Calls.mono (SG.out _)) ?_
    rintro e w' ⟨rfl, rfl⟩
    go_wp2_with fail
    refine (Calls.mono AM.out) ?_
    rintro e w1 ⟨rfl, b1⟩
    go_wp2
    go_ret
    exact ⟨rfl, b1⟩
end TextI
end Go.Proofs.YtiilopfhlmeaoaaGreatDoor
