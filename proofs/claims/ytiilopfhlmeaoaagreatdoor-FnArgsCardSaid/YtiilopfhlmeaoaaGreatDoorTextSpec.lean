import Derived.Test.YtiilopfhlmeaoaaGreatDoorTextFmt
import Derived.Test.YtiilopfhlmeaoaaGreatDoorFmtSpec
import Derived.Test.YtiilopfhlmeaoaaGreatDoorArithSpec
import Derived.Test.YtiilopfhlmeaoaaGreatDoorLinSpec
import Derived.Test.YtiilopfhlmeaoaaGreatDoorSortSpec1
import Derived.Deep.RegionHeld3
/-
  The model's text of a linear expression: terms, names.
-/
namespace Go.Proofs.YtiilopfhlmeaoaaGreatDoor
open Go.RowKit
namespace TextS
open TextM TextI RowK

theorem itoa_one : Lib.itoa 1 = [49] := by
  rw [Lib.itoa, if_neg (by omega), Lib.decDigits]
  rfl
theorem itoa_other {n : Int} (h : n ≠ 1) : (Lib.itoa n == [49]) = false := by
  rw [beq_eq_false_iff_ne]
  intro e
  rw [← itoa_one] at e
  exact h (NumM.itoa_inj e)
theorem ret_bytes {a : ByteArray} {b : List UInt8} (h : a.data.toList = b) : Ending.returned (.string a) = .returned (.string ⟨b.toArray⟩) := by rw [← h, mk_list]

set_option maxHeartbeats 2000000 in
set_option maxRecDepth 100000 in
/-- spec.l5Term. -/
theorem term (t : List UInt8) (x : Int) (nm : ByteArray) (hx : x.natAbs ≤ 1000000000) (hn : nm.size ≤ 8) (ht : t.length ≤ 100000) (w : World) :
    Calls Tryz.prog 75 #[.string ⟨t.toArray⟩, .int .i64 x, .string nm] w fun e w' => e = .returned (.string ⟨(addT t (x, nm)).toArray⟩) ∧ Below w.heap.size w w' := by
  have SZ := Lib.hid (ArithS.size3 x (by omega) (by omega))
  have FI := Lib.hid (fun W => FmtS.any (x.natAbs : Int) (by omega) (by omega) W)
  have hl := itoa_short x.natAbs hx
  have hL : ((x.natAbs : Int) = 1 ∧ (Lib.itoa x.natAbs == [49]) = true) ∨ ((x.natAbs : Int) ≠ 1 ∧ (Lib.itoa x.natAbs == [49]) = false) := by
    by_cases h : (x.natAbs : Int) = 1
    · exact Or.inl ⟨h, by rw [h, itoa_one]; rfl⟩
    · exact Or.inr ⟨h, itoa_other h⟩
  have hN : (nm = ByteArray.empty ∧ nm.size = 0) ∨ (nm.toList.isEmpty = false ∧ nm.size ≠ 0) := by
    by_cases h : nm.size = 0
    · exact Or.inl ⟨name_none h, h⟩
    · exact Or.inr ⟨name_facts h, h⟩
  have hW : word x nm = if x.natAbs = 1 ∧ nm.size ≠ 0 then nm.data.toList else Lib.itoa x.natAbs ++ nm.data.toList := rfl
  have hT : t = [] ∨ t.isEmpty = false := by cases t <;> simp
  have hX : (decide (x < 0) = true) ∨ (decide (x < 0) = false) := by cases decide (x < 0) <;> simp
  generalize Lib.itoa (x.natAbs : Int) = L at *
  rcases hL with ⟨h1, h2⟩ | ⟨h1, h2⟩ <;> rcases hN with ⟨h3, h4⟩ | ⟨h3, h4⟩
  · rw [if_neg (fun h => h.2 h4)] at hW
    have HW := Lib.hid hW
    subst h3
    clear hW h1 h4
    rcases hT with rfl | hT <;> rcases hX with hX | hX
    all_goals
      go_enter Tryz.func75, Tryz.ntmps75
      go_wp2_with fail
      refine (SZ.out _).mono ?_
      rintro e w' ⟨rfl, rfl⟩
      go_wp2_with fail
      refine (FI.out _).mono ?_
      rintro e w1 ⟨rfl, b1⟩
      go_wp2
      go_ret
      exact ⟨ret_bytes (by rw [addT, HW.out]; simp_all [sgn] <;> (rw [if_neg (by omega)]; rfl)), b1⟩
  · rw [if_pos ⟨by omega, h4⟩] at hW
    have HW := Lib.hid hW
    clear hW h1 h4
    rcases hT with rfl | hT <;> rcases hX with hX | hX
    all_goals
      go_enter Tryz.func75, Tryz.ntmps75
      go_wp2_with fail
      refine (SZ.out _).mono ?_
      rintro e w' ⟨rfl, rfl⟩
      go_wp2_with fail
      refine (FI.out _).mono ?_
      rintro e w1 ⟨rfl, b1⟩
      go_wp2
      go_ret
      exact ⟨ret_bytes (by rw [addT, HW.out]; simp_all [sgn] <;> (rw [if_neg (by omega)]; rfl)), b1⟩
  · rw [if_neg (fun h => h.2 h4)] at hW
    have HW := Lib.hid hW
    subst h3
    clear hW h1 h4
    rcases hT with rfl | hT <;> rcases hX with hX | hX
    all_goals
      go_enter Tryz.func75, Tryz.ntmps75
      go_wp2_with fail
      refine (SZ.out _).mono ?_
      rintro e w' ⟨rfl, rfl⟩
      go_wp2_with fail
      refine (FI.out _).mono ?_
      rintro e w1 ⟨rfl, b1⟩
      go_wp2
      go_ret
      exact ⟨ret_bytes (by rw [addT, HW.out]; simp_all [sgn] <;> (rw [if_neg (by omega)]; rfl)), b1⟩
  · rw [if_neg (fun h => h1 (by omega))] at hW
    have HW := Lib.hid hW
    clear hW h1 h4
    rcases hT with rfl | hT <;> rcases hX with hX | hX
    all_goals
      go_enter Tryz.func75, Tryz.ntmps75
      go_wp2_with fail
      refine (SZ.out _).mono ?_
      rintro e w' ⟨rfl, rfl⟩
      go_wp2_with fail
      refine (FI.out _).mono ?_
      rintro e w1 ⟨rfl, b1⟩
      go_wp2
      go_ret
      exact ⟨ret_bytes (by rw [addT, HW.out]; simp_all [sgn] <;> (rw [if_neg (by omega)]; rfl)), b1⟩
end TextS
end Go.Proofs.YtiilopfhlmeaoaaGreatDoor
