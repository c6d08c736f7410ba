import Derived.Test.YtgpjgjjadhmkhaaGreatProg
import Derived.Test.YtgpjgjjadhmkhaaGreatArithSpec
import Derived.Test.YtgpjgjjadhmkhaaGreatLinMath
import Derived.Test.YtgpjgjjadhmkhaaGreatRepGen
import Derived.Test.YtgpjgjjadhmkhaaGreatLinImpl2
import Derived.WalkKit
import Derived.Lib.Hide
import Derived.Deep.QuietTactic
import Derived.BigQuiet
import Derived.IntWalk
/-
  The model's linear expressions: validity, constants, variables, values, equality.
-/
namespace Go.Proofs.YtgpjgjjadhmkhaaGreat
open Go.RowKit
namespace LinS
open RowK LinM

theorem cnt (n : Int) (w : World) :
    Calls Tryz.prog 42 #[.int .i64 n, .int .i64 0, .int .i64 8] w fun e w' => e = .returned (.bool (cntB n)) ∧ w = w' := by
  unfold cntB
  exact ArithS.inR n 0 8 w

set_option maxHeartbeats 1000000 in
set_option maxRecDepth 100000 in
theorem valid (lo hi : Nat) (z : Int) (A : Option Addr) (c : Nat) (zs : List Int) (n : Int) (w : World) (hA : Row lo hi w A (IntK.iv zs)) (hl : zs.length ≤ 1000000000) :
    Calls Tryz.prog 96 #[.agg #[.int .i64 z, .slice A zs.length c], .int .i64 n] w fun e w' => e = .returned (.bool (vldB z zs n)) ∧ Below w.heap.size w w' := by
  have IC := Lib.hid ArithS.in3
  have CN := Lib.hid cnt
  have hA1 := hA.below ((Below.refl _ _).alloc (Nat.le_refl _) (Obj.cells #[Value.int IntKind.i64 z, Value.slice A zs.length c] 100))
  have hnot := Lib.hid (fun (k : Nat) (hk : k < zs.length) (h : ArithM.inC zs[k] = false) => (show vldB z zs n = false from by
    rw [← Bool.not_eq_true, vldB_iff]; rintro ⟨_, _, _, h5⟩; rw [all_get h5 k hk] at h; cases h))
  have hfin : Hid ((∀ x ∈ zs, ArithM.inC x = true) → vldB z zs n = ((cntB n && decide ((zs.length : Int) = n)) && ArithM.inC z)) := Lib.hid (fun h => by
    have : zs.all ArithM.inC = true := List.all_eq_true.2 h
    simp [vldB, this])
  generalize vldB z zs n = V at *
  go_enter Tryz.func96, Tryz.ntmps96
  go_wp2
  go_loop [5] (fun i => ∃ k : Nat, k ≤ zs.length ∧ i = .int .i64 k ∧ ∀ j (h : j < zs.length), j < k → ArithM.inC zs[j] = true) (fun i => zs.length - (intOf i).toNat)
  case atStart => exact ⟨0, Nat.zero_le _, rfl, fun j _ h => by omega⟩
  case round =>
    obtain ⟨k, hk, rfl, hpre⟩ := hrel
    have HP := Lib.hid hpre
    clear hpre
    by_cases hlt : k < zs.length
    · obtain ⟨b, o, rfl, hbl, hc⟩ := IntK.at_ hA1 hlt
      have hn := Lib.hid (hnot.out k hlt)
      have hs := Lib.hid (fun (h : ArithM.inC zs[k] = true) j (hj : j < zs.length) (h2 : j < k + 1) => (show ArithM.inC zs[j] = true from by
        by_cases e : j = k
        · subst e; exact h
        · exact HP.out j hj (by omega)))
      generalize zs[k] = x at *
      have hk1 : (k : Int) < (zs.length : Int) := by omega
      go_wp2_with fail
      refine (IC.out x _).mono ?_
      rintro e w1 ⟨rfl, rfl⟩
      by_cases hx : ArithM.inC x = true
      · have hs' := Lib.hid (hs.out hx)
        simp only [hx]
        clear hs hn hnot hfin
        go_wp2
        go_round
        case rel => exact ⟨k + 1, by omega, by go_num, hs'.out⟩
        case measure => simp [intOf]; omega
      · simp only [Bool.not_eq_true] at hx
        have hn' := Lib.hid (hn.out hx)
        simp only [hx]
        clear hs hn hnot hfin
        go_wp2
        go_ret
        exact ⟨ArithI.ret_bool hn'.out.symm, (Below.refl _ _).alloc (Nat.le_refl _) _⟩
    · obtain rfl : k = zs.length := by omega
      have hv := Lib.hid (hfin.out (fun x hx => by
        obtain ⟨j, hj, rfl⟩ := List.getElem_of_mem hx
        exact HP.out j hj hj))
      clear hfin hnot HP
      by_cases h1 : cntB n = true
      · rw [h1] at hv
        have CN' := Lib.hid (fun W => CN.out n W)
        rw [h1] at CN'
        by_cases h2 : (zs.length : Int) = n
        · have IC' := Lib.hid (fun W => IC.out z W)
          rw [decide_eq_true h2, Bool.and_true, Bool.true_and] at hv
          subst h2
          generalize ArithM.inC z = I at *
          clear h1
          go_wp2_with fail
          refine (CN'.out _).mono ?_
          rintro e w1 ⟨rfl, rfl⟩
          go_wp2_with fail
          refine (IC'.out _).mono ?_
          rintro e w1 ⟨rfl, rfl⟩
          go_wp2
          go_ret
          exact ⟨ArithI.ret_bool hv.out.symm, (Below.refl _ _).alloc (Nat.le_refl _) _⟩
        · rw [decide_eq_false h2, Bool.and_false, Bool.false_and] at hv
          have h2' : ((zs.length : Int) == n) = false := by simpa using h2
          clear h1 h2
          go_wp2_with fail
          refine (CN'.out _).mono ?_
          rintro e w1 ⟨rfl, rfl⟩
          go_wp2
          go_ret
          exact ⟨ArithI.ret_bool hv.out.symm, (Below.refl _ _).alloc (Nat.le_refl _) _⟩
      · simp only [Bool.not_eq_true] at h1
        rw [h1, Bool.false_and, Bool.false_and] at hv
        have CN' := Lib.hid (fun W => CN.out n W)
        rw [h1] at CN'
        clear h1
        go_wp2_with fail
        refine (CN'.out _).mono ?_
        rintro e w1 ⟨rfl, rfl⟩
        go_wp2
        go_ret
        exact ⟨ArithI.ret_bool hv.out.symm, (Below.refl _ _).alloc (Nat.le_refl _) _⟩

set_option maxHeartbeats 1000000 in
set_option maxRecDepth 100000 in
theorem eval (lo hi lo' hi' : Nat) (z : Int) (A B : Option Addr) (c d : Nat) (zs vs : List Int) (w : World) (hA : Row lo hi w A (IntK.iv zs)) (hB : Row lo' hi' w B (IntK.iv vs)) (hl : zs.length ≤ 1000000000) (hl2 : vs.length ≤ 1000000000) :
    Calls Tryz.prog 55 #[.agg #[.int .i64 z, .slice A zs.length c], .slice B vs.length d] w fun e w' => e = .returned (.tuple #[.int .i64 ((evalL z zs vs).getD 0), .bool (evalL z zs vs).isSome]) ∧ Below w.heap.size w w' := by
  have VL := Lib.hid (fun lo hi W h => valid lo hi z A c zs vs.length W h hl)
  have FI := Lib.hid ArithS.fits
  have b0 := Lib.hid ((Below.refl w.heap.size w).alloc (Nat.le_refl _) (Obj.cells #[Value.int IntKind.i64 z, Value.slice A zs.length c] 100))
  by_cases hv : vldB z zs vs.length = true
  · obtain ⟨hn, hlen, hz, hcs⟩ := vldB_iff.1 hv
    rw [ArithM.inC_iff] at hz
    have hm : evalL z zs vs = if vs.all ArithM.inF = true then some (z + dot zs vs) else none := by simp [evalL, hv]
    rw [hm]
    rw [hv] at VL
    clear hm hv
    have hno := Lib.hid (fun (k : Nat) (hk : k < vs.length) (h : ArithM.inF vs[k] = false) => (show vs.all ArithM.inF = false from by
      rw [← Bool.not_eq_true, List.all_eq_true]; intro h5; rw [h5 _ (List.getElem_mem hk)] at h; cases h))
    have hyes := Lib.hid (fun (h : ∀ k (hk : k < vs.length), ArithM.inF vs[k] = true) => (show vs.all ArithM.inF = true from by
      rw [List.all_eq_true]; intro x hx; obtain ⟨j, hj, rfl⟩ := List.getElem_of_mem hx; exact h j hj))
    have hdot : Hid (∀ k, (h : k < zs.length) → (h2 : k < vs.length) → dot (zs.take (k + 1)) (vs.take (k + 1)) = dot (zs.take k) (vs.take k) + zs[k] * vs[k]) := Lib.hid (fun k h h2 => dot_take zs vs k h h2)
    have hbd : Hid (∀ k : Nat, k ≤ vs.length → (∀ j (hj : j < vs.length), j < k → ArithM.inF vs[j] = true) → -9000000000000000 ≤ dot (zs.take k) (vs.take k) ∧ dot (zs.take k) (vs.take k) ≤ 9000000000000000) := Lib.hid (fun k hk h => by
      have := dot_bound (zs.take k) (vs.take k) (fun x hx => hcs x (List.mem_of_mem_take hx)) (fun y hy => by
        obtain ⟨j, hj, rfl⟩ := List.getElem_of_mem hy
        rw [List.length_take] at hj
        rw [List.getElem_take]
        exact h j (by omega) (by omega))
      rw [List.length_take] at this
      omega)
    have hfull : Hid (dot (zs.take vs.length) vs = dot zs vs) := Lib.hid (by rw [List.take_of_length_le (by omega)])
    have HCS := Lib.hid (fun k (h : k < zs.length) => ArithM.inC_iff.1 (all_get hcs k h))
    clear hcs
    have hlen' : zs.length = vs.length := by omega
    have HL := Lib.hid hlen'
    have hlt1 := Lib.hid (show ∀ k, k < vs.length → k < zs.length from fun k h => by omega)
    clear hlen hlen'
    have hRy := Lib.hid (fun (h : vs.all ArithM.inF = true) => (show (if vs.all ArithM.inF = true then some (z + dot zs vs) else none) = some (z + dot zs vs) from if_pos h))
    have hRn := Lib.hid (fun (h : vs.all ArithM.inF = false) => (show (if vs.all ArithM.inF = true then some (z + dot zs vs) else none) = none from if_neg (by rw [h]; simp)))
    generalize (if vs.all ArithM.inF = true then some (z + dot zs vs) else none) = R at *
    go_enter Tryz.func55, Tryz.ntmps55
    go_wp2_with fail
    refine (VL.out lo hi _ (hA.below b0.out)).mono ?_
    rintro e w1 ⟨rfl, b1⟩
    have LV := Lib.hid ((Lvar.new w _ _).below b1 : Lvar w1 w.heap.size #[Value.int IntKind.i64 z, Value.slice A zs.length c])
    have lv0 := LV.out.cell 0 _ rfl
    have hbb := Lib.hid (b0.out.trans (b1.mono b0.out.size))
    have hA1 := hA.below hbb.out
    have hB1 := hB.below hbb.out
    go_wp2
    go_loopw [6, 7] (fun s i wr => ∃ k : Nat, k ≤ vs.length ∧ i = .int .i64 k ∧ s = .int .i64 (z + dot (zs.take k) (vs.take k)) ∧ (∀ j (h : j < vs.length), j < k → ArithM.inF vs[j] = true) ∧ Below w1.heap.size w1 wr) (fun _ i _ => vs.length - (intOf i).toNat)
    case atStart => exact ⟨0, Nat.zero_le _, rfl, by simp [dot], fun j _ h => by omega, Below.refl _ _⟩
    case round =>
      obtain ⟨k, hk, rfl, rfl, hpre, hwr⟩ := hrel
      have HP := Lib.hid hpre
      have HW := Lib.hid hwr
      have Q := Lib.hid (LV.out.below hwr)
      have q1 := Q.out.cell 1 _ rfl
      clear hpre hwr
      by_cases hlt : k < vs.length
      · obtain ⟨b2, o2, e2, _, hc2⟩ := IntK.at_ (hA1.below HW.out) (hlt1.out k hlt)
        obtain ⟨b3, o3, e3, _, hc3⟩ := IntK.at_ (hB1.below HW.out) hlt
        subst e2; subst e3
        have hn := Lib.hid (hno.out k hlt)
        have hb1 := hbd.out k hk HP.out
        have hb2 := Lib.hid (hbd.out (k + 1) hlt)
        have hst := Lib.hid (hdot.out k (hlt1.out k hlt) hlt)
        have hcz := HCS.out k (hlt1.out k hlt)
        have hs := Lib.hid (fun (h : ArithM.inF vs[k] = true) j (hj : j < vs.length) (h2 : j < k + 1) => (show ArithM.inF vs[j] = true from by
          by_cases e : j = k
          · subst e; exact h
          · exact HP.out j hj (by omega)))
        have hk1 : (k : Int) < (zs.length : Int) := by have := hlt1.out k hlt; omega
        have hk2 : (k : Int) < (vs.length : Int) := by omega
        have hk0 : (0 : Int) ≤ (k : Int) := by omega
        generalize zs[k] = x at *
        generalize vs[k] = y at *
        generalize dot (zs.take k) (vs.take k) = D at *
        clear hno hdot hbd HCS
        go_wp2_with fail
        refine (FI.out y _).mono ?_
        rintro e w2 ⟨rfl, rfl⟩
        by_cases hy : ArithM.inF y = true
        · have hs' := Lib.hid (hs.out hy)
          have hb3 := hb2.out hs'.out
          rw [hst.out] at hb3
          simp only [hy]
          have hyy := ArithM.inF_iff.1 hy
          have hm := mul_bd hcz hyy
          have hmm : wrap64 (x * y) = x * y := by unfold wrap64; omega
          have hmm2 : IntKind.i64.wrap (x * y) = x * y := IntWalk.i64_in _ (by omega)
          have hmm3 : IntKind.i64.wrap (z + D + x * y) = z + D + x * y := IntWalk.i64_in _ (by omega)
          clear hs hn hyes
          go_wp2
          go_quiet (fail)
          go_wp2
          go_roundw
          case rel => exact ⟨k + 1, by omega, by go_num, congrArg (Value.int .i64) (by rw [hst.out]; omega), hs'.out, below_drewN HW.out _⟩
          case measure => simp [intOf]; omega
        · simp only [Bool.not_eq_true] at hy
          simp only [hy]
          have hR : Hid (R = none) := hRn.out (hn.out hy)
          clear hs hn hyes
          go_wp2
          go_ret2
          exact ⟨by rw [hR.out]; rfl, below_step hbb.out HW.out⟩
      · obtain rfl : k = vs.length := by omega
        have hR : Hid (R = some (z + dot zs vs)) := hRy.out (hyes.out (fun j hj => HP.out j hj hj))
        have hb1 := hbd.out vs.length (Nat.le_refl _) HP.out
        clear hno hdot hbd HCS hyes
        go_wp2
        go_ret2
        exact ⟨by rw [hR.out, List.take_length, hfull.out]; rfl, below_step hbb.out HW.out⟩
  · have hm : evalL z zs vs = none := by simp [evalL, hv]
    simp only [Bool.not_eq_true] at hv
    rw [hm]
    rw [hv] at VL
    clear hm hv
    go_enter Tryz.func55, Tryz.ntmps55
    go_wp2_with fail
    refine (VL.out lo hi _ (hA.below b0.out)).mono ?_
    rintro e w1 ⟨rfl, b1⟩
    go_wp2
    go_ret2
    exact ⟨rfl, b0.out.trans (b1.mono b0.out.size)⟩
end LinS
end Go.Proofs.YtgpjgjjadhmkhaaGreat
