import Derived.Test.YtgpjgjjadhmkhaaGreatProg
import Derived.Test.YtgpjgjjadhmkhaaGreatArithSpec
import Derived.Test.YtgpjgjjadhmkhaaGreatLinMath
import Derived.Test.YtgpjgjjadhmkhaaGreatRepGen
import Derived.WalkKit
import Derived.Lib.Hide
import Derived.Deep.QuietTactic
import Derived.BigQuiet
import Derived.IntWalk
import Derived.Test.YtgpjgjjadhmkhaaGreatShelf
import Derived.Deep.RegionHeld3
/-
  The program's linear expressions: validity, constants, variables, values.
-/
namespace Go.Proofs.YtgpjgjjadhmkhaaGreat
open Go.RowKit
namespace LinI
open RowK LinM

theorem cnt (n : Int) (w : World) :
    Calls Tryz.prog 134 #[.int .i64 n] w fun e w' => e = .returned (.bool (cntB n)) ∧ w = w' := by
  unfold cntB
  go_enter Tryz.func134, Tryz.ntmps134
  go_wp2
  all_goals
    go_ret
    exact ⟨ArithI.ret_bool (by simp_all; try omega), rfl⟩

set_option maxHeartbeats 1000000 in
set_option maxRecDepth 100000 in
theorem valid (lo hi : Nat) (z : Int) (A : Option Addr) (c : Nat) (zs : List Int) (n : Int) (w : World) (hA : Row lo hi w A (IntK.iv zs)) (hl : zs.length ≤ 1000000000) :
    Calls Tryz.prog 136 #[.agg #[.int .i64 z, .slice A zs.length c], .int .i64 n] w fun e w' => e = .returned (.bool (vldB z zs n)) ∧ Below w.heap.size w w' := by
  have IC := Lib.hid ArithI.isCoeff
  have CN := Lib.hid cnt
  have b0 : Below w.heap.size w (w.alloc (Obj.cells #[Value.int IntKind.i64 z, Value.slice A zs.length c] 100)) := (Below.refl _ _).alloc (Nat.le_refl _) _
  by_cases h1 : cntB n = true
  · by_cases h2 : (zs.length : Int) = n
    · subst h2
      by_cases h3 : ArithM.inC z = true
      · have hall := Lib.hid (fun (h : ∀ x ∈ zs, ArithM.inC x = true) => (vldB_iff (z := z) (zs := zs) (n := (zs.length : Int))).2 ⟨cntB_iff.1 h1, rfl, h3, h⟩)
        have hnot := Lib.hid (fun (k : Nat) (hk : k < zs.length) (h : ArithM.inC zs[k] = false) => (show vldB z zs zs.length = false from by
          rw [← Bool.not_eq_true, vldB_iff]; rintro ⟨_, _, _, h5⟩; rw [all_get h5 k hk] at h; cases h))
        generalize vldB z zs zs.length = V at *
        clear b0
        go_enter Tryz.func136, Tryz.ntmps136
        go_wp2_with fail
        refine (CN.out _ _).mono ?_
        rintro e w1 ⟨rfl, rfl⟩
        simp only [h1]
        go_wp2_with fail
        refine (IC.out z _).mono ?_
        rintro e w1 ⟨rfl, rfl⟩
        simp only [h3]
        go_wp2
        have hA1 := hA.below ((Below.refl _ _).alloc (Nat.le_refl _) (Obj.cells #[Value.int IntKind.i64 z, Value.slice A zs.length c] 100))
        go_loop [26] (fun i => ∃ k : Nat, k ≤ zs.length ∧ i = .int .i64 k ∧ ∀ j (h : j < zs.length), j < k → ArithM.inC zs[j] = true) (fun i => zs.length - (intOf i).toNat)
        case atStart => exact ⟨0, Nat.zero_le _, rfl, fun j _ h => by omega⟩
        case round =>
          obtain ⟨k, hk, rfl, hpre⟩ := hrel
          have HP := Lib.hid hpre
          clear hpre
          by_cases hlt : k < zs.length
          · obtain ⟨b, o, rfl, hbl, hc⟩ := IntK.at_ hA1 hlt
            have hn := Lib.hid (hnot.out k hlt)
            have hs := Lib.hid (fun (h : ArithM.inC zs[k] = true) j (hj : j < zs.length) (h2 : j < k + 1) => (show ArithM.inC zs[j] = true from by
              by_cases e : j = k
              · subst e; exact h
              · exact HP.out j hj (by omega)))
            generalize zs[k] = x at *
            go_wp2_with fail
            refine (IC.out x _).mono ?_
            rintro e w1 ⟨rfl, rfl⟩
            by_cases hx : ArithM.inC x = true
            · have hs' := Lib.hid (hs.out hx)
              simp only [hx]
              clear hs hn hnot hall
              go_wp2
              go_round
              case rel => exact ⟨k + 1, by omega, by go_num, hs'.out⟩
              case measure => simp [intOf]; omega
            · simp only [Bool.not_eq_true] at hx
              have hn' := Lib.hid (hn.out hx)
              simp only [hx]
              clear hs hn hnot hall
              go_wp2
              go_ret
              exact ⟨ArithI.ret_bool hn'.out.symm, (Below.refl _ _).alloc (Nat.le_refl _) _⟩
          · obtain rfl : k = zs.length := by omega
            have hv := Lib.hid (hall.out (fun x hx => by
              obtain ⟨j, hj, rfl⟩ := List.getElem_of_mem hx
              exact HP.out j hj hj))
            clear hall hnot
            go_wp2
            go_ret
            exact ⟨ArithI.ret_bool hv.out.symm, (Below.refl _ _).alloc (Nat.le_refl _) _⟩
      · simp only [Bool.not_eq_true] at h3
        rw [vldB_false_head (Or.inr (Or.inr h3))]
        clear b0
        go_enter Tryz.func136, Tryz.ntmps136
        go_wp2_with fail
        refine (CN.out _ _).mono ?_
        rintro e w1 ⟨rfl, rfl⟩
        simp only [h1]
        go_wp2_with fail
        refine (IC.out z _).mono ?_
        rintro e w1 ⟨rfl, rfl⟩
        simp only [h3]
        go_wp2
        go_ret
        exact ⟨rfl, (Below.refl _ _).alloc (Nat.le_refl _) _⟩
    · rw [vldB_false_head (Or.inr (Or.inl h2))]
      have h2' : ((zs.length : Int) != n) = true := by simpa using h2
      clear b0 h2
      go_enter Tryz.func136, Tryz.ntmps136
      go_wp2_with fail
      refine (CN.out _ _).mono ?_
      rintro e w1 ⟨rfl, rfl⟩
      simp only [h1]
      go_wp2
      go_ret
      exact ⟨rfl, (Below.refl _ _).alloc (Nat.le_refl _) _⟩
  · simp only [Bool.not_eq_true] at h1
    rw [vldB_false_head (Or.inl h1)]
    clear b0
    go_enter Tryz.func136, Tryz.ntmps136
    go_wp2_with fail
    refine (CN.out _ _).mono ?_
    rintro e w1 ⟨rfl, rfl⟩
    simp only [h1]
    go_wp2
    go_ret
    exact ⟨rfl, (Below.refl _ _).alloc (Nat.le_refl _) _⟩

/-- .. whose capacity is known. -/
def GaveC (w : World) (z : Int) (zs : List Int) (e : Ending) (w' : World) : Prop :=
  ∃ A c, e = .returned (.agg #[.int .i64 z, .slice A zs.length c]) ∧ Row w.heap.size w'.heap.size w' A (IntK.iv zs) ∧ Free w' A zs.length ∧ Below w.heap.size w w' ∧ zs.length ≤ c
set_option maxHeartbeats 1000000 in
set_option maxRecDepth 100000 in
theorem eval (lo hi lo' hi' : Nat) (z : Int) (A B : Option Addr) (c d : Nat) (zs vs : List Int) (w : World) (hA : Row lo hi w A (IntK.iv zs)) (hB : Row lo' hi' w B (IntK.iv vs)) (hl : zs.length ≤ 1000000000) (hl2 : vs.length ≤ 1000000000) :
    Calls Tryz.prog 90 #[.agg #[.int .i64 z, .slice A zs.length c], .slice B vs.length d] w fun e w' => e = .returned (.tuple #[.int .i64 ((evalL z zs vs).getD 0), .bool (evalL z zs vs).isSome]) ∧ Below w.heap.size w w' := by
  have VL := Lib.hid (fun lo hi W h => valid lo hi z A c zs vs.length W h hl)
  have FI := Lib.hid ArithI.fits
  have b0 := Lib.hid ((Below.refl w.heap.size w).alloc (Nat.le_refl _) (Obj.cells #[Value.int IntKind.i64 z, Value.slice A zs.length c] 100))
  by_cases hv : vldB z zs vs.length = true
  · obtain ⟨hn, hlen, hz, hcs⟩ := vldB_iff.1 hv
    rw [ArithM.inC_iff] at hz
    have hm : evalL z zs vs = if vs.all ArithM.inF = true then some (z + dot zs vs) else none := by simp [evalL, hv]
    rw [hm]
    rw [hv] at VL
    clear hm hv
    have hno := Lib.hid (fun (k : Nat) (hk : k < vs.length) (h : ArithM.inF vs[k] = false) => (show vs.all ArithM.inF = false from by
      rw [← Bool.not_eq_true, List.all_eq_true]; intro h5; rw [h5 _ (List.getElem_mem hk)] at h; cases h))
    have hyes := Lib.hid (fun (h : ∀ k (hk : k < vs.length), ArithM.inF vs[k] = true) => (show vs.all ArithM.inF = true from by
      rw [List.all_eq_true]; intro x hx; obtain ⟨j, hj, rfl⟩ := List.getElem_of_mem hx; exact h j hj))
    have hdot : Hid (∀ k, (h : k < zs.length) → (h2 : k < vs.length) → dot (zs.take (k + 1)) (vs.take (k + 1)) = dot (zs.take k) (vs.take k) + zs[k] * vs[k]) := Lib.hid (fun k h h2 => dot_take zs vs k h h2)
    have hbd : Hid (∀ k : Nat, k ≤ vs.length → (∀ j (hj : j < vs.length), j < k → ArithM.inF vs[j] = true) → -9000000000000000 ≤ dot (zs.take k) (vs.take k) ∧ dot (zs.take k) (vs.take k) ≤ 9000000000000000) := Lib.hid (fun k hk h => by
      have := dot_bound (zs.take k) (vs.take k) (fun x hx => hcs x (List.mem_of_mem_take hx)) (fun y hy => by
        obtain ⟨j, hj, rfl⟩ := List.getElem_of_mem hy
        rw [List.length_take] at hj
        rw [List.getElem_take]
        exact h j (by omega) (by omega))
      rw [List.length_take] at this
      omega)
    have hfull : Hid (dot (zs.take vs.length) vs = dot zs vs) := Lib.hid (by rw [List.take_of_length_le (by omega)])
    have HCS := Lib.hid (fun k (h : k < zs.length) => ArithM.inC_iff.1 (all_get hcs k h))
    clear hcs
    have hlen' : zs.length = vs.length := by omega
    have HL := Lib.hid hlen'
    have hlt1 := Lib.hid (show ∀ k, k < vs.length → k < zs.length from fun k h => by omega)
    clear hlen hlen'
    have hRy := Lib.hid (fun (h : vs.all ArithM.inF = true) => (show (if vs.all ArithM.inF = true then some (z + dot zs vs) else none) = some (z + dot zs vs) from if_pos h))
    have hRn := Lib.hid (fun (h : vs.all ArithM.inF = false) => (show (if vs.all ArithM.inF = true then some (z + dot zs vs) else none) = none from if_neg (by rw [h]; simp)))
    generalize (if vs.all ArithM.inF = true then some (z + dot zs vs) else none) = R at *
    go_enter Tryz.func90, Tryz.ntmps90
    go_wp2_with fail
    refine (VL.out lo hi _ (hA.below b0.out)).mono ?_
    rintro e w1 ⟨rfl, b1⟩
    obtain ⟨hc1, hf1⟩ := LinK.bcell b1
    have hbb := Lib.hid (b0.out.trans (b1.mono b0.out.size))
    have hA1 := hA.below hbb.out
    have hB1 := hB.below hbb.out
    go_wp2
    go_loop [6, 18] (fun s i => ∃ k : Nat, k ≤ vs.length ∧ i = .int .i64 k ∧ s = .int .i64 (z + dot (zs.take k) (vs.take k)) ∧ ∀ j (h : j < vs.length), j < k → ArithM.inF vs[j] = true) (fun _ i => vs.length - (intOf i).toNat)
    case atStart => exact ⟨0, Nat.zero_le _, rfl, by simp [dot], fun j _ h => by omega⟩
    case round =>
      obtain ⟨k, hk, rfl, rfl, hpre⟩ := hrel
      have HP := Lib.hid hpre
      clear hpre
      by_cases hlt : k < vs.length
      · obtain ⟨b2, o2, e2, _, hc2⟩ := IntK.at_ hA1 (hlt1.out k hlt)
        obtain ⟨b3, o3, e3, _, hc3⟩ := IntK.at_ hB1 hlt
        subst e2; subst e3
        have hn := Lib.hid (hno.out k hlt)
        have hb1 := hbd.out k hk HP.out
        have hb2 := Lib.hid (hbd.out (k + 1) hlt)
        have hst := Lib.hid (hdot.out k (hlt1.out k hlt) hlt)
        have hcz := HCS.out k (hlt1.out k hlt)
        have hs := Lib.hid (fun (h : ArithM.inF vs[k] = true) j (hj : j < vs.length) (h2 : j < k + 1) => (show ArithM.inF vs[j] = true from by
          by_cases e : j = k
          · subst e; exact h
          · exact HP.out j hj (by omega)))
        have hk1 : (k : Int) < (zs.length : Int) := by have := hlt1.out k hlt; omega
        generalize zs[k] = x at *
        generalize vs[k] = y at *
        generalize dot (zs.take k) (vs.take k) = D at *
        clear hno hdot hbd HCS
        go_wp2_with fail
        refine (FI.out y _).mono ?_
        rintro e w2 ⟨rfl, rfl⟩
        by_cases hy : ArithM.inF y = true
        · have hs' := Lib.hid (hs.out hy)
          have hb3 := hb2.out hs'.out
          rw [hst.out] at hb3
          simp only [hy]
          have hyy := ArithM.inF_iff.1 hy
          have hm := mul_bd hcz hyy
          have hmm : wrap64 (x * y) = x * y := by unfold wrap64; omega
          clear hs hn hyes
          go_wp2
          go_round
          case rel => exact ⟨k + 1, by omega, by go_num, congrArg (Value.int .i64) (by rw [hst.out]; omega), hs'.out⟩
          case measure => simp [intOf]; omega
        · simp only [Bool.not_eq_true] at hy
          simp only [hy]
          have hR : Hid (R = none) := hRn.out (hn.out hy)
          clear hs hn hyes
          go_wp2
          go_ret2
          exact ⟨by rw [hR.out]; rfl, hbb.out⟩
      · obtain rfl : k = vs.length := by omega
        have hR : Hid (R = some (z + dot zs vs)) := hRy.out (hyes.out (fun j hj => HP.out j hj hj))
        have hb1 := hbd.out vs.length (Nat.le_refl _) HP.out
        clear hno hdot hbd HCS hyes
        go_wp2
        go_ret2
        exact ⟨by rw [hR.out, hfull.out]; rfl, hbb.out⟩
  · have hm : evalL z zs vs = none := by simp [evalL, hv]
    simp only [Bool.not_eq_true] at hv
    rw [hm]
    rw [hv] at VL
    clear hm hv
    go_enter Tryz.func90, Tryz.ntmps90
    go_wp2_with fail
    refine (VL.out lo hi _ (hA.below b0.out)).mono ?_
    rintro e w1 ⟨rfl, b1⟩
    go_wp2
    go_ret2
    exact ⟨rfl, b0.out.trans (b1.mono b0.out.size)⟩
end LinI
end Go.Proofs.YtgpjgjjadhmkhaaGreat

/-
  The program's linear expressions: copies and tightened constraints.
-/
namespace Go.Proofs.YtgpjgjjadhmkhaaGreat
open Go.RowKit
namespace LinI
open RowK LinM ArithM

/-- Behind a row was made, only blocks below it were written. -/
theorem keep_row {w w1 W : World} {lo hi mid : Nat} {A : Option Addr} {zs : List Int} (b0 : Below w.heap.size w w1) (r : Row lo hi w1 A (IntK.iv zs)) (f : Free w1 A zs.length) (hm : Mod w.heap.size mid w1 W) (h1 : mid ≤ lo) (h2 : w.heap.size ≤ lo) (h3 : hi ≤ w1.heap.size) :
    Row w.heap.size W.heap.size W A (IntK.iv zs) ∧ Free W A zs.length ∧ Below w.heap.size w W :=
  ⟨(r.keep hm (Or.inr h1)).wider h2 (Nat.le_trans h3 hm.size) (Nat.le_refl _), f.keep r (by rw [IntK.iv_len]; exact Nat.le_refl _) hm (Or.inr h1), below_mod b0 hm (Nat.le_refl _) b0.size⟩

end LinI
end Go.Proofs.YtgpjgjjadhmkhaaGreat
