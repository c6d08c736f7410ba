import Derived.Test.YtbdpohcababccaaGreatProg
import Derived.Test.YtbdpohcababccaaGreatArithSpec
import Derived.Test.YtbdpohcababccaaGreatLinMath
import Derived.Test.YtbdpohcababccaaGreatRepGen
import Derived.Test.YtbdpohcababccaaGreatLinImpl
import Derived.WalkKit
import Derived.Lib.Hide
import Derived.Deep.QuietTactic
import Derived.BigQuiet
import Derived.IntWalk
/-
  The model's linear expressions: validity, constants, variables, values, equality.
-/
namespace Go.Proofs.YtbdpohcababccaaGreat
open Go.RowKit
namespace LinS
open RowK LinM

theorem cnt (n : Int) (w : World) :
    Calls Tryz.prog 47 #[.int .i64 n, .int .i64 0, .int .i64 8] w fun e w' => e = .returned (.bool (cntB n)) ∧ w = w' := by
  unfold cntB
  exact ArithS.inR n 0 8 w

set_option maxHeartbeats 1000000 in
set_option maxRecDepth 100000 in
theorem valid (lo hi : Nat) (z : Int) (A : Option Addr) (c : Nat) (zs : List Int) (n : Int) (w : World) (hA : Row lo hi w A (IntK.iv zs)) (hl : zs.length ≤ 1000000000) :
    Calls Tryz.prog 80 #[.agg #[.int .i64 z, .slice A zs.length c], .int .i64 n] w fun e w' => e = .returned (.bool (vldB z zs n)) ∧ Below w.heap.size w w' := by
  have IC := Lib.hid ArithS.in3
  have CN := Lib.hid cnt
  have hA1 := hA.below ((Below.refl _ _).alloc (Nat.le_refl _) (Obj.cells #[Value.int IntKind.i64 z, Value.slice A zs.length c] 125))
  have hnot := Lib.hid (fun (k : Nat) (hk : k < zs.length) (h : ArithM.inC zs[k] = false) => (show vldB z zs n = false from by
    rw [← Bool.not_eq_true, vldB_iff]; rintro ⟨_, _, _, h5⟩; rw [all_get h5 k hk] at h; cases h))
  have hfin : Hid ((∀ x ∈ zs, ArithM.inC x = true) → vldB z zs n = ((cntB n && decide ((zs.length : Int) = n)) && ArithM.inC z)) := Lib.hid (fun h => by
    have : zs.all ArithM.inC = true := List.all_eq_true.2 h
    simp [vldB, this])
  generalize vldB z zs n = V at *
  go_enter Tryz.func80, Tryz.ntmps80
  go_wp2
  go_loop [5] (fun i => ∃ k : Nat, k ≤ zs.length ∧ i = .int .i64 k ∧ ∀ j (h : j < zs.length), j < k → ArithM.inC zs[j] = true) (fun i => zs.length - (intOf i).toNat)
  case atStart => exact ⟨0, Nat.zero_le _, rfl, fun j _ h => by omega⟩
  case round =>
    obtain ⟨k, hk, rfl, hpre⟩ := hrel
    have HP := Lib.hid hpre
    clear hpre
    by_cases hlt : k < zs.length
    · obtain ⟨b, o, rfl, hbl, hc⟩ := IntK.at_ hA1 hlt
      have hn := Lib.hid (hnot.out k hlt)
      have hs := Lib.hid (fun (h : ArithM.inC zs[k] = true) j (hj : j < zs.length) (h2 : j < k + 1) => (show ArithM.inC zs[j] = true from by
        by_cases e : j = k
        · subst e; exact h
        · exact HP.out j hj (by omega)))
      generalize zs[k] = x at *
      have hk1 : (k : Int) < (zs.length : Int) := by omega
      go_wp2_with fail
      refine (IC.out x _).mono ?_
      rintro e w1 ⟨rfl, rfl⟩
      by_cases hx : ArithM.inC x = true
      · have hs' := Lib.hid (hs.out hx)
        simp only [hx]
        clear hs hn hnot hfin
        go_wp2
        go_round
        case rel => exact ⟨k + 1, by omega, by go_num, hs'.out⟩
        case measure => simp [intOf]; omega
      · simp only [Bool.not_eq_true] at hx
        have hn' := Lib.hid (hn.out hx)
        simp only [hx]
        clear hs hn hnot hfin
        go_wp2
        go_ret
        exact ⟨ArithI.ret_bool hn'.out.symm, (Below.refl _ _).alloc (Nat.le_refl _) _⟩
    · obtain rfl : k = zs.length := by omega
      have hv := Lib.hid (hfin.out (fun x hx => by
        obtain ⟨j, hj, rfl⟩ := List.getElem_of_mem hx
        exact HP.out j hj hj))
      clear hfin hnot HP
      by_cases h1 : cntB n = true
      · rw [h1] at hv
        have CN' := Lib.hid (fun W => CN.out n W)
        rw [h1] at CN'
        by_cases h2 : (zs.length : Int) = n
        · have IC' := Lib.hid (fun W => IC.out z W)
          rw [decide_eq_true h2, Bool.and_true, Bool.true_and] at hv
          subst h2
          generalize ArithM.inC z = I at *
          clear h1
          go_wp2_with fail
          refine (CN'.out _).mono ?_
          rintro e w1 ⟨rfl, rfl⟩
          go_wp2_with fail
          refine (IC'.out _).mono ?_
          rintro e w1 ⟨rfl, rfl⟩
          go_wp2
          go_ret
          exact ⟨ArithI.ret_bool hv.out.symm, (Below.refl _ _).alloc (Nat.le_refl _) _⟩
        · rw [decide_eq_false h2, Bool.and_false, Bool.false_and] at hv
          have h2' : ((zs.length : Int) == n) = false := by simpa using h2
          clear h1 h2
          go_wp2_with fail
          refine (CN'.out _).mono ?_
          rintro e w1 ⟨rfl, rfl⟩
          go_wp2
          go_ret
          exact ⟨ArithI.ret_bool hv.out.symm, (Below.refl _ _).alloc (Nat.le_refl _) _⟩
      · simp only [Bool.not_eq_true] at h1
        rw [h1, Bool.false_and, Bool.false_and] at hv
        have CN' := Lib.hid (fun W => CN.out n W)
        rw [h1] at CN'
        clear h1
        go_wp2_with fail
        refine (CN'.out _).mono ?_
        rintro e w1 ⟨rfl, rfl⟩
        go_wp2
        go_ret
        exact ⟨ArithI.ret_bool hv.out.symm, (Below.refl _ _).alloc (Nat.le_refl _) _⟩

set_option maxHeartbeats 1000000 in
set_option maxRecDepth 100000 in
theorem var (i n : Int) (w : World) :
    Calls Tryz.prog 149 #[.int .i64 i, .int .i64 n] w (LinI.Gave w (varL i n).1 (varL i n).2) := by
  have CN := Lib.hid (fun W => cnt n W)
  have b0 := Lib.hid ((Below.refl w.heap.size w).alloc (Nat.le_refl _) (Obj.cells #[Value.int IntKind.i64 0, Value.slice none 0 0] 125))
  by_cases h1 : cntB n = true
  · rw [h1] at CN
    have hb := cntB_iff.1 h1
    have IR := Lib.hid (fun W => ArithS.inR i 0 (n - 1) W)
    by_cases h2 : 0 ≤ i ∧ i < n
    · have hm : varL i n = (0, (List.replicate n.toNat 0).set i.toNat 1) := by rw [varL, if_pos ⟨h1, h2⟩]
      rw [hm]
      rw [decide_eq_true h2.1, decide_eq_true (show i ≤ n - 1 by omega)] at IR
      clear hm h1
      obtain ⟨m, rfl⟩ : ∃ m : Nat, n = (m : Int) := ⟨n.toNat, by omega⟩
      obtain ⟨k, rfl⟩ : ∃ k : Nat, i = (k : Int) := ⟨i.toNat, by omega⟩
      simp only [Int.toNat_natCast]
      have hk : k < m := by omega
      have hmk := IntK.run_mk m (by omega)
      have hro := Lib.hid (fun W => LinI.made W m (by omega))
      have hk1 : (k : Int) < (m : Int) := by omega
      have hmc : (madeCells #[.int .i64 0] m)[k]? = some (.int .i64 0) := by
        rw [← Array.getElem?_toList, toList_madeCells_one, List.getElem?_replicate, if_pos hk]
      clear h2
      go_enter Tryz.func149, Tryz.ntmps149
      go_wp2_with fail
      refine (CN.out _).mono ?_
      rintro e w1 ⟨rfl, rfl⟩
      go_wp2_with fail
      refine (IR.out _).mono ?_
      rintro e w1 ⟨rfl, rfl⟩
      go_wp2
      have L := Lvar.new (w.alloc (Obj.cells #[Value.int IntKind.i64 0, Value.slice (some { block := w.heap.size + 1, off := 0 }) m m] 125)) ((madeCells #[Value.int IntKind.i64 0] m).setIfInBounds k (Value.int IntKind.i64 1)) 3
      have L' := (L.alloc (Obj.cells #[Value.int IntKind.i64 0, Value.slice (some { block := w.heap.size + 1, off := 0 }) m m] 125)).row
      simp only [World.size_alloc, Array.toList_setIfInBounds, toList_madeCells_one, Array.size_setIfInBounds, size_madeCells] at L'
      have e : IntK.iv ((List.replicate m 0).set k 1) = (List.replicate m (Value.int .i64 0)).set k (.int .i64 1) := by simp [IntK.iv, List.map_set]
      refine bodyPost_ret (v := .agg #[.int .i64 0, .slice (some ⟨w.heap.size + 1, 0, none⟩) m m]) (by simp [results, Tryz.results149, go_sem]) rfl ⟨some ⟨w.heap.size + 1, 0, none⟩, m, by simp, ?_, ?_, ((((Below.refl _ _).alloc (Nat.le_refl _) _).alloc (by simp) _).alloc (by simp; omega) _)⟩
      · rw [e]
        exact L'.1.wider (by omega) (by simp) (Nat.le_refl _)
      · rw [List.length_set, List.length_replicate]
        exact L'.2
    · have hm : varL i n = (0, []) := by rw [varL, if_neg (fun h => h2 h.2)]
      rw [hm]
      rw [show (decide (0 ≤ i) && decide (i ≤ n - 1)) = false by simp; omega] at IR
      clear hm h1 h2
      go_enter Tryz.func149, Tryz.ntmps149
      go_wp2_with fail
      refine (CN.out _).mono ?_
      rintro e w1 ⟨rfl, rfl⟩
      go_wp2_with fail
      refine (IR.out _).mono ?_
      rintro e w1 ⟨rfl, rfl⟩
      go_wp2
      exact bodyPost_ret (v := .agg #[.int .i64 0, .slice none 0 0]) (by simp [results, Tryz.results149, go_sem]) rfl ⟨none, 0, rfl, row_nil _ _ _ _, free_zero _ _, b0.out⟩
  · have hm : varL i n = (0, []) := by rw [varL, if_neg (fun h => h1 h.1)]
    rw [hm]
    simp only [Bool.not_eq_true] at h1
    rw [h1] at CN
    clear hm h1
    go_enter Tryz.func149, Tryz.ntmps149
    go_wp2_with fail
    refine (CN.out _).mono ?_
    rintro e w1 ⟨rfl, rfl⟩
    go_wp2
    exact bodyPost_ret (v := .agg #[.int .i64 0, .slice none 0 0]) (by simp [results, Tryz.results149, go_sem]) rfl ⟨none, 0, rfl, row_nil _ _ _ _, free_zero _ _, b0.out⟩

end LinS
end Go.Proofs.YtbdpohcababccaaGreat
