import Derived.Test.YtjjhpabmhnincaaGreatDoorArgFmtS
import Derived.Test.YtjjhpabmhnincaaGreatDoorArgMath2
import Derived.Test.YtjjhpabmhnincaaGreatDoorTextCons
/-
  The model's FormatArg: the representation of a valid argument.
-/
namespace Go.Proofs.YtjjhpabmhnincaaGreatDoor
open Go.RowKit
namespace ArgP
open RowK Mem ArgM ArgI TextM

theorem headsT_snoc (a : List Sm) (h : Sm) : headsT (a ++ [h]) = headsT a ++ (fmtS h ++ ArgSp.sep) := by simp [headsT]
theorem fmtS_len {s : Sm} (h : sumV s = true) : (fmtS s).length ≤ 190 := by
  have h1 := TextI.F_len (nms s) s.1 (cfs s)
  rw [F_sum h, FS, if_pos h] at h1
  exact h1
theorem headsT_len : ∀ {hs : List Sm}, (∀ h ∈ hs, sumV h = true) → (headsT hs).length ≤ 193 * hs.length
  | [], _ => by simp [headsT]
  | h :: hs, hh => by
    have h1 := fmtS_len (hh h List.mem_cons_self)
    have h2 := headsT_len (fun x hx => hh x (List.mem_cons_of_mem _ hx))
    simp only [headsT, List.map_cons, List.flatten_cons, List.length_append, List.length_cons, List.length_nil] at h2 ⊢
    omega

set_option maxHeartbeats 1000000 in
set_option maxRecDepth 100000 in
/-- The model's representation of an argument. -/
theorem formatArg (p : Bool) (s : ByteArray) (A : Option Addr) (c : Nat) (xs : List Sm) (w : World) (hA : ArgS Mem.sum w A xs.length c xs) (hl : xs.length + szs ssl xs ≤ 1000000000) (hs : ∀ x ∈ xs, ∀ t ∈ x.2, t.2.size ≤ 9223372036854775807) (hb : s.size ≤ 9223372036854775807) :
    Calls Tryz.prog 11 #[.agg #[.bool p, .slice A xs.length c, .string s]] w fun e w' => e = .returned (.string ⟨(FA (p, xs, s)).toArray⟩) ∧ Below w.heap.size w w' := by
  have HV := Lib.hid (fun W (h : Below w.heap.size w W) => validArg p A c xs s W (hA.below h) hl hs hb)
  have B0 := Lib.hid ((Below.refl w.heap.size w).alloc (Nat.le_refl _) (Obj.cells #[Value.bool p, Value.slice A xs.length c, Value.string s] 26))
  have V0 := Lib.hid (Lvar.new w #[Value.bool p, Value.slice A xs.length c, Value.string s] 26)
  cases hv : argV (p, xs, s) with
  | false =>
    have HF : Hid (FA (p, xs, s) = []) := Lib.hid (by simp [FA, hv])
    rw [hv] at HV
    clear hv hA hl
    go_enter Tryz.func11, Tryz.ntmps11
    go_wp2_with fail
    refine (Calls.mono (HV.out _ B0.out)) ?_
    rintro e w1 ⟨rfl, b1⟩
    have B1 := Lib.hid (B0.out.trans (b1.mono B0.out.size))
    clear b1
    go_wp2
    go_ret
    exact ⟨TextI.ret_str HF.out.symm, B1.out⟩
  | true =>
    have HF := Lib.hid (show FA (p, xs, s) = fmtA (p, xs, s) by simp [FA, hv])
    have HA := Lib.hid hA
    rw [hv] at HV
    go_enter Tryz.func11, Tryz.ntmps11
    go_wp2_with fail
    refine (Calls.mono (HV.out _ B0.out)) ?_
    rintro e w1 ⟨rfl, b1⟩
    have B1 := Lib.hid (B0.out.trans (b1.mono B0.out.size))
    have V1 := Lib.hid (V0.out.below b1)
    clear b1 V0 B0 HV hA
    have v0 := V1.out.cell 0 (.bool p) rfl
    have v1 := V1.out.cell 1 (.slice A xs.length c) rfl
    have v2 := V1.out.cell 2 (.string s) rfl
    cases p with
    | false =>
      obtain ⟨k, rfl, hk, _⟩ := argV_int.1 hv
      obtain ⟨b2, o, B, d, rfl, hbb, c0, c1, hts⟩ := (HA.out.below B1.out).sum_at (k := 0) (Nat.succ_pos _)
      have hsk := hs k List.mem_cons_self
      have hlk : k.2.length ≤ 1000000000 := by simp [szs, ssl] at hl; omega
      have HF2 := Lib.hid (show FA (false, [k], s) = FS k by rw [HF.out, FS, if_pos hk]; rfl)
      obtain ⟨z, ts⟩ := k
      simp only [List.getElem_cons_zero, Nat.zero_mul, Nat.add_zero] at c0 c1 hts hsk hlk
      have FO := Lib.hid (formatSum z B d ts w1 hts hlk hsk)
      clear hv hl hs hk hts HF
      go_wp2_with fail
      refine (Calls.mono FO.out) ?_
      rintro e w2 ⟨rfl, b2⟩
      have B2 := Lib.hid (B1.out.trans (b2.mono B1.out.size))
      clear b2
      go_wp2
      go_ret
      exact ⟨TextI.ret_str HF2.out.symm, B2.out⟩
    | true =>
      obtain ⟨a1, a2, a3⟩ := argV_list.1 hv
      have HF2 := Lib.hid (show FA (true, xs, s) = headsT xs ++ baseT s by rw [HF.out]; rfl)
      clear hv HF
      go_wp2
      go_loopw [3, 4] (fun v i wr => ∃ k : Nat, k ≤ xs.length ∧ i = .int .i64 k ∧ v = .string ⟨(headsT (xs.take k)).toArray⟩ ∧ Below w1.heap.size w1 wr) (fun _ i _ => xs.length - (intOf i).toNat)
      case atStart => exact ⟨0, Nat.zero_le _, rfl, rfl, Below.refl _ _⟩
      case round =>
        obtain ⟨k, hk, rfl, rfl, hbw⟩ := hrel
        have HB := Lib.hid (B1.out.trans (hbw.mono B1.out.size))
        have V2 := Lib.hid (V1.out.below hbw)
        have HW := Lib.hid hbw
        clear hbw v0 v1 v2
        have v0 := V2.out.cell 0 (.bool true) rfl
        have v1 := V2.out.cell 1 (.slice A xs.length c) rfl
        have v2 := V2.out.cell 2 (.string s) rfl
        by_cases hlt : k < xs.length
        · obtain ⟨b2, o, B, d, rfl, hbb, c0, c1, hts⟩ := (HA.out.below HB.out).sum_at hlt
          have hsk := hs _ (List.getElem_mem hlt)
          have hlk := sum_len hlt hl
          have hvk := a1 _ (List.getElem_mem hlt)
          have HT := Lib.hid (show headsT (xs.take (k + 1)) = headsT (xs.take k) ++ (fmtS xs[k] ++ ArgSp.sep) by rw [take_snoc hlt, headsT_snoc])
          have hT1 := fmtS_len hvk
          have hT0 : (headsT (xs.take k)).length ≤ 579 := by
            have h9 := headsT_len (hs := xs.take k) (fun h hm => a1 h (List.mem_of_mem_take hm))
            have h8 := List.length_take_le k xs
            omega
          have hi0 : (0 : Int) ≤ (k : Int) := by omega
          have hi1 : (k : Int) < (xs.length : Int) := by omega
          generalize xs[k] = x at *
          obtain ⟨z, ts⟩ := x
          simp only at c0 c1 hts hsk hlk
          have FO := formatSum z B d ts wr hts hlk hsk
          rw [show FS (z, ts) = fmtS (z, ts) by rw [FS, if_pos hvk]] at FO
          have FO := Lib.hid FO
          clear hts hsk hvk
          generalize headsT (xs.take k) = T0 at *
          generalize fmtS (z, ts) = T1 at *
          have hsum : T0.length + T1.length + 3 ≤ 9223372036854775807 := by omega
          have hsum2 : T0.length + T1.length ≤ 9223372036854775807 := by omega
          have hno : decide (9223372036854775807 < T0.length + T1.length) = false := decide_eq_false (by omega)
          have hno2 : decide (9223372036854775807 < T0.length + T1.length + 3) = false := decide_eq_false (by omega)
          go_wp2_with fail
          refine (Calls.mono FO.out) ?_
          rintro e w2 ⟨rfl, b2⟩
          have B2 := Lib.hid (HW.out.trans (b2.mono HW.out.size))
          clear b2
          go_wp2
          go_roundw
          case rel => exact ⟨k + 1, by omega, by go_num, congrArg Value.string (NameM.toList_inj (by rw [HT.out]; simp [ArgSp.sep, ByteArray.data_append])), B2.out⟩
          case measure => simp [intOf]; omega
        · obtain rfl : k = xs.length := by omega
          rw [List.take_length]
          have hTA : (headsT xs).length ≤ 579 := by have h9 := headsT_len a1; omega
          have hbs : s.size ≤ 8 := by
            simp only [baseV, Bool.or_eq_true, decide_eq_true_eq] at a3
            rcases a3 with h | h
            · omega
            · exact (valid_shape (list_valid h)).2
          by_cases h0 : s.size = 0
          · obtain rfl := TextI.name_none h0
            have HF3 := Lib.hid (show FA (true, xs, ByteArray.empty) = headsT xs ++ [110, 105, 108] from HF2.out)
            clear HF2
            generalize headsT xs = T0 at *
            go_wp2
            refine bodyPost_ret (v := .string (ByteArray.mk T0.toArray ++ ⟨#[110, 105, 108]⟩)) (by simp [results, Tryz.results11, go_sem]) rfl ?_
            exact ⟨TextS.ret_bytes (by rw [HF3.out]; simp [ByteArray.data_append]), HB.out⟩
          · have hnf := TextI.name_facts h0
            have HF3 := Lib.hid (show FA (true, xs, s) = headsT xs ++ s.data.toList by rw [HF2.out, baseT, if_neg h0])
            clear HF2
            generalize headsT xs = T0 at *
            go_wp2
            refine bodyPost_ret (v := .string (ByteArray.mk T0.toArray ++ s)) (by simp [results, Tryz.results11, go_sem]) rfl ?_
            exact ⟨TextS.ret_bytes (by rw [HF3.out]; simp [ByteArray.data_append]), HB.out⟩
end ArgP
end Go.Proofs.YtjjhpabmhnincaaGreatDoor
