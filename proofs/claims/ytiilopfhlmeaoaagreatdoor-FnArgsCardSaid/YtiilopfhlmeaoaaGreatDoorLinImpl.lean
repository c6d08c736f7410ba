import Derived.Test.YtiilopfhlmeaoaaGreatDoorProg
import Derived.Test.YtiilopfhlmeaoaaGreatDoorArgMath2
import Derived.Test.YtiilopfhlmeaoaaGreatDoorArithImpl
import Derived.Test.YtiilopfhlmeaoaaGreatDoorRepGen
import Derived.WalkKit
import Derived.Lib.Hide
import Derived.Deep.QuietTactic
import Derived.BigQuiet
import Derived.IntWalk
/-
  The program's linear expressions: validity, constants, variables, values.
-/
namespace Go.Proofs.YtiilopfhlmeaoaaGreatDoor
open Go.RowKit
namespace LinI
open RowK LinM

theorem cnt (n : Int) (w : World) :
    Calls Tryz.prog 90 #[.int .i64 n] w fun e w' => e = .returned (.bool (cntB n)) ∧ w = w' := by
  unfold cntB
  go_enter Tryz.func90, Tryz.ntmps90
  go_wp2
  all_goals
    go_ret
    exact ⟨ArithI.ret_bool (by simp_all; try omega), rfl⟩

set_option maxHeartbeats 1000000 in
set_option maxRecDepth 100000 in
theorem valid (lo hi : Nat) (z : Int) (A : Option Addr) (c : Nat) (zs : List Int) (n : Int) (w : World) (hA : Row lo hi w A (IntK.iv zs)) (hl : zs.length ≤ 1000000000) :
    Calls Tryz.prog 93 #[.agg #[.int .i64 z, .slice A zs.length c], .int .i64 n] w fun e w' => e = .returned (.bool (vldB z zs n)) ∧ Below w.heap.size w w' := by
  have IC := Lib.hid ArithI.isCoeff
  have CN := Lib.hid cnt
  have b0 : Below w.heap.size w (w.alloc (Obj.cells #[Value.int IntKind.i64 z, Value.slice A zs.length c] 82)) := (Below.refl _ _).alloc (Nat.le_refl _) _
  by_cases h1 : cntB n = true
  · by_cases h2 : (zs.length : Int) = n
    · subst h2
      by_cases h3 : ArithM.inC z = true
      · have hall := Lib.hid (fun (h : ∀ x ∈ zs, ArithM.inC x = true) => (vldB_iff (z := z) (zs := zs) (n := (zs.length : Int))).2 ⟨cntB_iff.1 h1, rfl, h3, h⟩)
        have hnot := Lib.hid (fun (k : Nat) (hk : k < zs.length) (h : ArithM.inC zs[k] = false) => (show vldB z zs zs.length = false from by
          rw [← Bool.not_eq_true, vldB_iff]; rintro ⟨_, _, _, h5⟩; rw [all_get h5 k hk] at h; cases h))
        generalize vldB z zs zs.length = V at *
        clear b0
        go_enter Tryz.func93, Tryz.ntmps93
        go_wp2_with fail
        refine (CN.out _ _).mono ?_
        rintro e w1 ⟨rfl, rfl⟩
        simp only [h1]
        go_wp2_with fail
        refine (IC.out z _).mono ?_
        rintro e w1 ⟨rfl, rfl⟩
        simp only [h3]
        go_wp2
        have hA1 := hA.below ((Below.refl _ _).alloc (Nat.le_refl _) (Obj.cells #[Value.int IntKind.i64 z, Value.slice A zs.length c] 82))
        go_loop [26] (fun i => ∃ k : Nat, k ≤ zs.length ∧ i = .int .i64 k ∧ ∀ j (h : j < zs.length), j < k → ArithM.inC zs[j] = true) (fun i => zs.length - (intOf i).toNat)
        case atStart => exact ⟨0, Nat.zero_le _, rfl, fun j _ h => by omega⟩
        case round =>
          obtain ⟨k, hk, rfl, hpre⟩ := hrel
          have HP := Lib.hid hpre
          clear hpre
          by_cases hlt : k < zs.length
          · obtain ⟨b, o, rfl, hbl, hc⟩ := IntK.at_ hA1 hlt
            have hn := Lib.hid (hnot.out k hlt)
            have hs := Lib.hid (fun (h : ArithM.inC zs[k] = true) j (hj : j < zs.length) (h2 : j < k + 1) => (show ArithM.inC zs[j] = true from by
              by_cases e : j = k
              · subst e; exact h
              · exact HP.out j hj (by omega)))
            generalize zs[k] = x at *
            go_wp2_with fail
            refine (IC.out x _).mono ?_
            rintro e w1 ⟨rfl, rfl⟩
            by_cases hx : ArithM.inC x = true
            · have hs' := Lib.hid (hs.out hx)
              simp only [hx]
              clear hs hn hnot hall
              go_wp2
              go_round
              case rel => exact ⟨k + 1, by omega, by go_num, hs'.out⟩
              case measure => simp [intOf]; omega
            · simp only [Bool.not_eq_true] at hx
              have hn' := Lib.hid (hn.out hx)
              simp only [hx]
              clear hs hn hnot hall
              go_wp2
              go_ret
              exact ⟨ArithI.ret_bool hn'.out.symm, (Below.refl _ _).alloc (Nat.le_refl _) _⟩
          · obtain rfl : k = zs.length := by omega
            have hv := Lib.hid (hall.out (fun x hx => by
              obtain ⟨j, hj, rfl⟩ := List.getElem_of_mem hx
              exact HP.out j hj hj))
            clear hall hnot
            go_wp2
            go_ret
            exact ⟨ArithI.ret_bool hv.out.symm, (Below.refl _ _).alloc (Nat.le_refl _) _⟩
      · simp only [Bool.not_eq_true] at h3
        rw [vldB_false_head (Or.inr (Or.inr h3))]
        clear b0
        go_enter Tryz.func93, Tryz.ntmps93
        go_wp2_with fail
        refine (CN.out _ _).mono ?_
        rintro e w1 ⟨rfl, rfl⟩
        simp only [h1]
        go_wp2_with fail
        refine (IC.out z _).mono ?_
        rintro e w1 ⟨rfl, rfl⟩
        simp only [h3]
        go_wp2
        go_ret
        exact ⟨rfl, (Below.refl _ _).alloc (Nat.le_refl _) _⟩
    · rw [vldB_false_head (Or.inr (Or.inl h2))]
      have h2' : ((zs.length : Int) != n) = true := by simpa using h2
      clear b0 h2
      go_enter Tryz.func93, Tryz.ntmps93
      go_wp2_with fail
      refine (CN.out _ _).mono ?_
      rintro e w1 ⟨rfl, rfl⟩
      simp only [h1]
      go_wp2
      go_ret
      exact ⟨rfl, (Below.refl _ _).alloc (Nat.le_refl _) _⟩
  · simp only [Bool.not_eq_true] at h1
    rw [vldB_false_head (Or.inl h1)]
    clear b0
    go_enter Tryz.func93, Tryz.ntmps93
    go_wp2_with fail
    refine (CN.out _ _).mono ?_
    rintro e w1 ⟨rfl, rfl⟩
    simp only [h1]
    go_wp2
    go_ret
    exact ⟨rfl, (Below.refl _ _).alloc (Nat.le_refl _) _⟩

/-- A linear expression in new memory. -/
def Gave (w : World) (z : Int) (zs : List Int) (e : Ending) (w' : World) : Prop :=
  ∃ A c, e = .returned (.agg #[.int .i64 z, .slice A zs.length c]) ∧ Row w.heap.size w'.heap.size w' A (IntK.iv zs) ∧ Free w' A zs.length ∧ Below w.heap.size w w'

/-- .. whose capacity is known. -/
def GaveC (w : World) (z : Int) (zs : List Int) (e : Ending) (w' : World) : Prop :=
  ∃ A c, e = .returned (.agg #[.int .i64 z, .slice A zs.length c]) ∧ Row w.heap.size w'.heap.size w' A (IntK.iv zs) ∧ Free w' A zs.length ∧ Below w.heap.size w w' ∧ zs.length ≤ c
theorem GaveC.gave {w w' : World} {z : Int} {zs : List Int} {e : Ending} (h : GaveC w z zs e w') : Gave w z zs e w' := by
  obtain ⟨A, c, h1, h2, h3, h4, _⟩ := h
  exact ⟨A, c, h1, h2, h3, h4⟩

/-- What make has made. -/
theorem made (w : World) (n : Nat) (hn : n ≤ 1000000000000) : Row w.heap.size (w.alloc (.cells (madeCells #[.int .i64 0] n) 3)).heap.size (w.alloc (.cells (madeCells #[.int .i64 0] n) 3)) (some ⟨w.heap.size, 0, none⟩) (IntK.iv (List.replicate n 0)) ∧ Free (w.alloc (.cells (madeCells #[.int .i64 0] n) 3)) (some ⟨w.heap.size, 0, none⟩) n := by
  obtain ⟨A, c, e, h1, h2, _, _⟩ := of_own (IntK.made_own n hn w)
  injection e with e1 e2 e3
  subst e1
  have hr : IntK.iv (List.replicate n 0) = List.replicate n (.int .i64 0) := by simp [IntK.iv]
  rw [hr]
  rw [List.length_replicate] at h2
  exact ⟨h1, h2⟩

set_option maxHeartbeats 1000000 in
set_option maxRecDepth 100000 in
theorem constC (k n : Int) (w : World) :
    Calls Tryz.prog 68 #[.int .i64 k, .int .i64 n] w (GaveC w (constL k n).1 (constL k n).2) := by
  have IC := Lib.hid ArithI.isCoeff
  have CN := Lib.hid cnt
  by_cases h1 : cntB n = true
  · by_cases h2 : ArithM.inC k = true
    · have hm : constL k n = (k, List.replicate n.toNat 0) := by simp [constL, h1, h2]
      rw [hm]
      clear hm
      have hb := cntB_iff.1 h1
      obtain ⟨m, rfl⟩ : ∃ m : Nat, n = (m : Int) := ⟨n.toNat, by omega⟩
      rw [Int.toNat_natCast]
      have hmk := IntK.run_mk m (by omega)
      have hro := Lib.hid (fun W => made W m (by omega))
      clear hb
      go_enter Tryz.func68, Tryz.ntmps68
      go_wp2_with fail
      refine (CN.out _ _).mono ?_
      rintro e w1 ⟨rfl, rfl⟩
      simp only [h1]
      go_wp2_with fail
      refine (IC.out k _).mono ?_
      rintro e w1 ⟨rfl, rfl⟩
      simp only [h2]
      go_wp2
      have hr := hro.out (w.alloc (Obj.cells #[Value.int IntKind.i64 k, Value.slice (some { block := w.heap.size + 1, off := 0 }) m m] 82))
      refine bodyPost_ret (v := .agg #[.int .i64 k, .slice (some ⟨w.heap.size + 1, 0, none⟩) m m]) (by simp [results, Tryz.results68, go_sem]) rfl ⟨some ⟨w.heap.size + 1, 0, none⟩, m, by simp, ?_, ?_, ((Below.refl _ _).alloc (Nat.le_refl _) _).alloc (by simp) _, by simp⟩
      · have h := hr.1
        simp only [World.size_alloc] at h ⊢
        exact h.wider (by omega) (by omega) (by simp)
      · have h := hr.2
        simp only [World.size_alloc, List.length_replicate] at h ⊢
        exact h
    · have hm : constL k n = (0, []) := by simp [constL, h2]
      simp only [Bool.not_eq_true] at h2
      rw [hm]
      clear hm
      go_enter Tryz.func68, Tryz.ntmps68
      go_wp2_with fail
      refine (CN.out _ _).mono ?_
      rintro e w1 ⟨rfl, rfl⟩
      simp only [h1]
      go_wp2_with fail
      refine (IC.out k _).mono ?_
      rintro e w1 ⟨rfl, rfl⟩
      simp only [h2]
      go_wp2
      exact bodyPost_ret (v := .agg #[.int .i64 0, .slice none 0 0]) (by simp [results, Tryz.results68, go_sem]) rfl ⟨none, 0, rfl, row_nil _ _ _ _, free_zero _ _, (Below.refl _ _).alloc (Nat.le_refl _) _, Nat.le_refl _⟩
  · have hm : constL k n = (0, []) := by simp [constL, h1]
    simp only [Bool.not_eq_true] at h1
    rw [hm]
    clear hm
    go_enter Tryz.func68, Tryz.ntmps68
    go_wp2_with fail
    refine (CN.out _ _).mono ?_
    rintro e w1 ⟨rfl, rfl⟩
    simp only [h1]
    go_wp2
    exact bodyPost_ret (v := .agg #[.int .i64 0, .slice none 0 0]) (by simp [results, Tryz.results68, go_sem]) rfl ⟨none, 0, rfl, row_nil _ _ _ _, free_zero _ _, (Below.refl _ _).alloc (Nat.le_refl _) _, Nat.le_refl _⟩
theorem const (k n : Int) (w : World) :
    Calls Tryz.prog 68 #[.int .i64 k, .int .i64 n] w (Gave w (constL k n).1 (constL k n).2) :=
  (constC k n w).mono fun _ _ h => h.gave

end LinI
end Go.Proofs.YtiilopfhlmeaoaaGreatDoor
