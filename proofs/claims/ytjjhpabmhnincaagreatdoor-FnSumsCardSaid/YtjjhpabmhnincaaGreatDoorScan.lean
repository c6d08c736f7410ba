import Derived.Test.YtjjhpabmhnincaaGreatDoorCut2
import Derived.Test.YtjjhpabmhnincaaGreatDoorParseImpl
import Derived.Test.YtjjhpabmhnincaaGreatDoorRepGen
/-
  impl.scanTerm: one term of a text.
-/
namespace Go.Proofs.YtjjhpabmhnincaaGreatDoor
open Go.RowKit
namespace CutI
open TextM TextI NameM

theorem pre45 (l : List UInt8) : Lib.hasPrefix l [45] = decide (l.head? = some 45) ∧ Lib.trimPrefix l [45] = NumM.body l := by
  unfold Lib.trimPrefix Lib.hasPrefix NumM.body
  cases l with
  | nil => exact ⟨rfl, rfl⟩
  | cons c r =>
    by_cases h : c = 45
    · subst h; simp [List.isPrefixOf]
    · have h2 : ((45 : UInt8) == c) = false := by rw [beq_eq_false_iff_ne]; exact fun e => h e.symm
      simp [List.isPrefixOf, h, h2]
theorem pre43 (l : List UInt8) : Lib.trimPrefix l [43] = strip43 l := by
  unfold Lib.trimPrefix Lib.hasPrefix strip43
  cases l with
  | nil => rfl
  | cons c r =>
    by_cases h : c = 43
    · subst h; simp [List.isPrefixOf]
    · have h2 : ((43 : UInt8) == c) = false := by rw [beq_eq_false_iff_ne]; exact fun e => h e.symm
      simp [List.isPrefixOf, h, h2]
theorem cutNeg (s : ByteArray) (w : World) :
    Calls Tryz.prog 103 #[.string s, .string ⟨#[45]⟩] w fun e w' => e = .returned (.tuple #[.string ⟨(NumM.body s.data.toList).toArray⟩, .bool (decide (s.data.toList.head? = some 45))]) ∧ w = w' :=
  (Tryz.strings_CutPrefix s ⟨#[45]⟩ w).mono fun e w' ⟨h1, h2⟩ => ⟨by rw [h1, show (ByteArray.mk #[45]).data.toList = [45] from rfl, (pre45 _).1, (pre45 _).2], h2.symm⟩
theorem trimPlus (l : List UInt8) (w : World) :
    Calls Tryz.prog 105 #[.string ⟨l.toArray⟩, .string ⟨#[43]⟩] w fun e w' => e = .returned (.string ⟨(strip43 l).toArray⟩) ∧ w = w' :=
  (Tryz.strings_TrimPrefix ⟨l.toArray⟩ ⟨#[43]⟩ w).mono fun e w' ⟨h1, h2⟩ => ⟨by rw [h1, show (ByteArray.mk #[43]).data.toList = [43] from rfl, show (ByteArray.mk l.toArray).data.toList = l from rfl, pre43], h2.symm⟩
theorem body_len (l : List UInt8) : (NumM.body l).length ≤ l.length := by unfold NumM.body; split <;> simp
theorem strip43_len (l : List UInt8) : (strip43 l).length ≤ l.length := by unfold strip43; split <;> simp
theorem readT_eq (l : List UInt8) : readT 999999 l = (if (decide (l.head? = some 45)) = true then -(if (strip43 (NumM.body l)).takeWhile digit = [] then 1 else (NumM.rd 0 999999 ((strip43 (NumM.body l)).takeWhile digit)).getD 0) else (if (strip43 (NumM.body l)).takeWhile digit = [] then 1 else (NumM.rd 0 999999 ((strip43 (NumM.body l)).takeWhile digit)).getD 0), ⟨((strip43 (NumM.body l)).dropWhile digit).toArray⟩) := by
  unfold readT readW
  simp only [decide_eq_true_eq]

/-- A term has been handed back. -/
def GaveT (w : World) (t : TItem) (e : Ending) (w' : World) : Prop := e = .returned (.agg #[.int .i64 t.1, .string t.2]) ∧ Below w.heap.size w w'

set_option maxHeartbeats 1000000 in
set_option maxRecDepth 100000 in
theorem scanT (s : ByteArray) (hs : s.size ≤ 1048576) (w : World) (henv : ParseI.Env w) :
    Calls Tryz.prog 78 #[.string s] w (GaveT w (readT 999999 s.data.toList)) := by
  have s0 : Below w.heap.size w (w.alloc (Obj.cells #[Value.int IntKind.i64 0, Value.string ⟨#[]⟩] 102)) := (Below.refl _ _).alloc (Nat.le_refl _) _
  have HR := Lib.hid (readT_eq s.data.toList)
  have CN := Lib.hid (cutNeg s)
  have hb1 : (NumM.body s.data.toList).length ≤ 1048576 := by have := body_len s.data.toList; rw [size_list] at this; omega
  generalize NumM.body s.data.toList = B at *
  generalize decide (s.data.toList.head? = some 45) = ng at *
  have TP := Lib.hid (trimPlus B)
  have hv1 : (strip43 B).length ≤ 1048576 := by have := strip43_len B; omega
  generalize strip43 B = v at *
  have DG := Lib.hid (fun W => digits ⟨v.toArray⟩ (by rw [size_mk]; exact hv1) W)
  unfold Two at DG
  have hD : (v.takeWhile digit).length ≤ 1048576 := by have := (List.takeWhile_sublist (l := v) digit).length_le; omega
  have e0 : (ByteArray.mk v.toArray).data.toList = v := rfl
  rw [e0] at DG
  generalize v.takeWhile digit = D at *
  generalize v.dropWhile digit = N at *
  have PN := Lib.hid (fun W (h : Below w.heap.size w W) => ParseI.ParseNumber_any ⟨D.toArray⟩ (by rw [size_mk]; exact hD) W (henv.below h))
  have e1 : (ByteArray.mk D.toArray).data.toList = D := rfl
  rw [e1] at PN
  have hr : ∀ n, NumM.rd 0 999999 D = some n → 0 ≤ n ∧ n ≤ 999999 := fun n h => rd_small h
  have hr2 : 0 ≤ (NumM.rd 0 999999 D).getD 0 ∧ (NumM.rd 0 999999 D).getD 0 ≤ 999999 := by
    cases h : NumM.rd 0 999999 D with
    | none => simp
    | some n => exact hr n h
  generalize (NumM.rd 0 999999 D).getD 0 = a at *
  generalize (NumM.rd 0 999999 D).isSome = q at *
  have B0 := Lib.hid s0
  have L0 := Lib.hid (RowK.Lvar.new w #[Value.int IntKind.i64 0, Value.string ⟨#[]⟩] 102)
  clear e0 e1 hr s0 hb1 hv1 hD
  have hcs : D = [] ∨ (D.isEmpty = false ∧ D ≠ []) := by cases D <;> simp
  rcases hcs with rfl | ⟨hD, hD2⟩
  · rw [if_pos rfl] at HR
    cases ng
    all_goals
      simp only [if_true, Bool.false_eq_true, if_false] at HR
      go_enter Tryz.func78, Tryz.ntmps78
      go_wp2_with fail
      refine (CN.out _).mono ?_
      rintro e w' ⟨rfl, rfl⟩
      go_wp2_with fail
      refine (TP.out _).mono ?_
      rintro e w' ⟨rfl, rfl⟩
      go_wp2_with fail
      refine (Calls.mono (DG.out _)) ?_
      rintro e w1 ⟨rfl, b1⟩
      have B1 := Lib.hid (B0.out.trans (b1.mono B0.out.size))
      have L1 := Lib.hid (L0.out.below b1)
      have l0 := L1.out.cell 0 (.int .i64 0) rfl
      have l1 := L1.out.cell 1 (.string ⟨#[]⟩) rfl
      have p0 := L1.out.frozen 0
      have p1 := L1.out.frozen 1
      clear b1
      go_wp2
      refine bodyPost_ret (v := .agg #[.int .i64 (readT 999999 s.data.toList).1, .string (readT 999999 s.data.toList).2]) (by rw [HR.out]; simp [results, Tryz.results78, go_sem, l0, l1]) rfl ⟨rfl, ?_⟩
      exact (B1.out.setCell (by simp) _).setCell (by simp) _
  · rw [if_neg hD2] at HR
    clear hD2
    cases ng
    all_goals
      simp only [if_true, Bool.false_eq_true, if_false] at HR
      go_enter Tryz.func78, Tryz.ntmps78
      go_wp2_with fail
      refine (CN.out _).mono ?_
      rintro e w' ⟨rfl, rfl⟩
      go_wp2_with fail
      refine (TP.out _).mono ?_
      rintro e w' ⟨rfl, rfl⟩
      go_wp2_with fail
      refine (Calls.mono (DG.out _)) ?_
      rintro e w1 ⟨rfl, b1⟩
      have B1 := Lib.hid (B0.out.trans (b1.mono B0.out.size))
      have L1 := Lib.hid (L0.out.below b1)
      clear b1
      go_wp2_with fail
      refine (Calls.mono (PN.out _ B1.out)) ?_
      rintro e w2 ⟨rfl, b2⟩
      have B2 := Lib.hid (B1.out.trans (b2.mono B1.out.size))
      have L2 := Lib.hid (L1.out.below b2)
      have l0 := L2.out.cell 0 (.int .i64 0) rfl
      have l1 := L2.out.cell 1 (.string ⟨#[]⟩) rfl
      have p0 := L2.out.frozen 0
      have p1 := L2.out.frozen 1
      clear b2
      go_wp2
      refine bodyPost_ret (v := .agg #[.int .i64 (readT 999999 s.data.toList).1, .string (readT 999999 s.data.toList).2]) (by rw [HR.out]; simp [results, Tryz.results78, go_sem, l0, l1]) rfl ⟨rfl, ?_⟩
      exact (B2.out.setCell (by simp) _).setCell (by simp) _
end CutI
end Go.Proofs.YtjjhpabmhnincaaGreatDoor
