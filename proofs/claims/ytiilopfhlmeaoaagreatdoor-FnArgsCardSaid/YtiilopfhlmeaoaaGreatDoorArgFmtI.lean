import Derived.Test.YtiilopfhlmeaoaaGreatDoorArgFmt
import Derived.Test.YtiilopfhlmeaoaaGreatDoorArgImpl2
import Derived.Test.YtiilopfhlmeaoaaGreatDoorArgFmtA
import Derived.Handy
/-
  impl.FormatArg: the representation of a valid argument.
-/
namespace Go.Proofs.YtiilopfhlmeaoaaGreatDoor
open Go.RowKit
namespace ArgI
open RowK Mem ArgM TextM

set_option maxHeartbeats 1000000 in
set_option maxRecDepth 100000 in
theorem intText (s : ByteArray) (A : Option Addr) (c : Nat) (k : Sm) (w : World) (hA : ArgS Mem.sum w A 1 c [k]) (hk : sumV k = true) (hl : k.2.length ≤ 1000000000) (hs : ∀ t ∈ k.2, t.2.size ≤ 9223372036854775807) (htab : FmtI.Pow w) :
    Calls Tryz.prog 189 #[.agg #[.slice A 1 c, .string s]] w fun e w' => e = .returned (.string ⟨(fmtS k).toArray⟩) ∧ Below w.heap.size w w' := by
  have B0 := Lib.hid ((Below.refl w.heap.size w).alloc (Nat.le_refl _) (Obj.cells #[Value.slice A 1 c, Value.string s] 74))
  have V0 := Lib.hid (Lvar.new w #[Value.slice A 1 c, Value.string s] 74)
  obtain ⟨b2, o, B, d, rfl, hbb, c0, c1, hts⟩ := (hA.below B0.out).sum_at (k := 0) (Nat.succ_pos _)
  have hf : FS k = fmtS k := by rw [FS, if_pos hk]
  obtain ⟨z, ts⟩ := k
  simp only [List.getElem_cons_zero, Nat.zero_mul, Nat.add_zero] at c0 c1 hts hl hs
  have FO := formatSum z B d ts _ hts hl hs (htab.below B0.out)
  rw [hf] at FO
  have FO := Lib.hid FO
  clear hA hts hf hk htab hs hl
  go_enter Tryz.func189, Tryz.ntmps189
  go_wp2_with fail
  refine (Calls.mono FO.out) ?_
  rintro e w2 ⟨rfl, b2⟩
  have B2 := Lib.hid (B0.out.trans (b2.mono B0.out.size))
  clear b2
  go_wp2
  go_ret
  exact ⟨rfl, B2.out⟩

set_option maxHeartbeats 2000000 in
set_option maxRecDepth 100000 in
theorem listText (s : ByteArray) (A : Option Addr) (c : Nat) (xs : List Sm) (w : World) (hA : ArgS Mem.sum w A xs.length c xs) (hv : lstV xs s = true) (hl : xs.length + szs ssl xs ≤ 1000000000) (hs : ∀ x ∈ xs, ∀ t ∈ x.2, t.2.size ≤ 9223372036854775807) (htab : FmtI.Pow w) :
    Calls Tryz.prog 186 #[.agg #[.slice A xs.length c, .string s]] w fun e w' => e = .returned (.string ⟨(headsT xs ++ baseT s).toArray⟩) ∧ Below w.heap.size w w' := by
  have hv2 : argV (true, xs, s) = true := by rw [argV_form]; exact hv
  obtain ⟨a1, a2, a3⟩ := argV_list.1 hv2
  have B0 := Lib.hid ((Below.refl w.heap.size w).alloc (Nat.le_refl _) (Obj.cells #[Value.slice A xs.length c, Value.string s] 73))
  have V0 := Lib.hid (Lvar.new w #[Value.slice A xs.length c, Value.string s] 73)
  have HA := Lib.hid hA
  have HT0 := Lib.hid htab
  obtain ⟨R, hR⟩ : ∃ R, R = headsT xs ++ baseT s := ⟨_, rfl⟩
  rw [← hR]
  have HR := Lib.hid hR
  clear hA hv hv2 htab hR
  have w0 := V0.out.cell 0 (.slice A xs.length c) rfl
  have w1 := V0.out.cell 1 (.string s) rfl
  go_enter Tryz.func186, Tryz.ntmps186
  go_wp2
  generalize w.alloc (Obj.cells #[Value.slice A xs.length c, Value.string s] 73) = wS at *
  clear w0 w1
  go_loopw [3, 10] (fun v i wr => ∃ k : Nat, k ≤ xs.length ∧ i = .int .i64 k ∧ v = .string ⟨(headsT (xs.take k)).toArray⟩ ∧ Below wS.heap.size wS wr) (fun _ i _ => xs.length - (intOf i).toNat)
  case atStart => exact ⟨0, Nat.zero_le _, rfl, rfl, Below.refl _ _⟩
  case round =>
    obtain ⟨k, hk, rfl, rfl, hbw⟩ := hrel
    have HB := Lib.hid (B0.out.trans (hbw.mono B0.out.size))
    have V2 := Lib.hid (V0.out.below hbw)
    have HW := Lib.hid hbw
    clear hbw
    have v0 := V2.out.cell 0 (.slice A xs.length c) rfl
    have v1 := V2.out.cell 1 (.string s) rfl
    by_cases hlt : k < xs.length
    · obtain ⟨b2, o, B, d, rfl, hbb, c0, c1, hts⟩ := (HA.out.below HB.out).sum_at hlt
      have hsk := hs _ (List.getElem_mem hlt)
      have hlk := sum_len hlt hl
      have hvk := a1 _ (List.getElem_mem hlt)
      have HT := Lib.hid (show headsT (xs.take (k + 1)) = headsT (xs.take k) ++ (fmtS xs[k] ++ ArgSp.sep) by rw [take_snoc hlt, ArgP.headsT_snoc])
      have hT1 := ArgP.fmtS_len hvk
      have hT0 : (headsT (xs.take k)).length ≤ 579 := by
        have h9 := ArgP.headsT_len (hs := xs.take k) (fun h hm => a1 h (List.mem_of_mem_take hm))
        have h8 := List.length_take_le k xs
        omega
      have hi0 : (0 : Int) ≤ (k : Int) := by omega
      have hi1 : (k : Int) < (xs.length : Int) := by omega
      generalize xs[k] = x at *
      obtain ⟨z, ts⟩ := x
      simp only at c0 c1 hts hsk hlk
      have ta : Below wr.heap.size wr (wr.alloc (Obj.cells #[Value.int .i64 z, Value.slice B ts.length d] 50)) := (Below.refl _ _).alloc (Nat.le_refl _) _
      have FO := formatSum z B d ts _ (hts.below ta) hlk hsk ((HT0.out.below HB.out).below ta)
      rw [show FS (z, ts) = fmtS (z, ts) by rw [FS, if_pos hvk]] at FO
      have FO := Lib.hid FO
      have HWa := Lib.hid (HW.out.trans (ta.mono HW.out.size))
      clear hts hsk hvk ta
      generalize headsT (xs.take k) = T0 at *
      generalize fmtS (z, ts) = T1 at *
      have hsum : T0.length + (T1.length + 3) ≤ 9223372036854775807 := by omega
      have hsum2 : T1.length + 3 ≤ 9223372036854775807 := by omega
      have hno : decide (9223372036854775807 < T1.length + 3) = false := decide_eq_false (by omega)
      have hno2 : decide (9223372036854775807 < T0.length + (T1.length + 3)) = false := decide_eq_false (by omega)
      go_wp2_with fail
      refine (Calls.mono FO.out) ?_
      rintro e w2 ⟨rfl, b2⟩
      have B2 := Lib.hid (HWa.out.trans (b2.mono HWa.out.size))
      clear b2
      go_wp2
      go_roundw
      case rel => exact ⟨k + 1, by omega, by go_num, congrArg Value.string (NameM.toList_inj (by rw [HT.out]; simp [ArgSp.sep, ByteArray.data_append])), B2.out⟩
      case measure => simp [intOf]; omega
    · obtain rfl : k = xs.length := by omega
      rw [List.take_length]
      have hTA : (headsT xs).length ≤ 579 := by have h9 := ArgP.headsT_len a1; omega
      have hbs : s.size ≤ 8 := by
        simp only [baseV, Bool.or_eq_true, decide_eq_true_eq] at a3
        rcases a3 with h | h
        · omega
        · exact (valid_shape (list_valid h)).2
      by_cases h0 : s.size = 0
      · obtain rfl := TextI.name_none h0
        have HF3 := Lib.hid (show R = headsT xs ++ [110, 105, 108] from HR.out)
        clear HR
        generalize headsT xs = T0 at *
        go_wp2
        refine bodyPost_ret (v := .string (ByteArray.mk T0.toArray ++ ⟨#[110, 105, 108]⟩)) (by simp [results, Tryz.results186, go_sem]) rfl ?_
        exact ⟨TextS.ret_bytes (by rw [HF3.out]; simp [ByteArray.data_append]), HB.out⟩
      · have hnf := TextI.name_facts h0
        have hse := str_empty s
        rw [decide_eq_false h0] at hse
        have HF3 := Lib.hid (show R = headsT xs ++ s.data.toList by rw [HR.out, baseT, if_neg h0])
        clear HR
        generalize headsT xs = T0 at *
        go_wp2
        refine bodyPost_ret (v := .string (ByteArray.mk T0.toArray ++ s)) (by simp [results, Tryz.results186, go_sem]) rfl ?_
        exact ⟨TextS.ret_bytes (by rw [HF3.out]; simp [ByteArray.data_append]), HB.out⟩

set_option maxHeartbeats 1000000 in
set_option maxRecDepth 100000 in
/-- The program's representation of an argument. -/
theorem formatArg (p : Bool) (s : ByteArray) (A : Option Addr) (c : Nat) (xs : List Sm) (w : World) (hA : ArgS Mem.sum w A xs.length c xs) (hl : xs.length + szs ssl xs ≤ 1000000000) (hs : ∀ x ∈ xs, ∀ t ∈ x.2, t.2.size ≤ 9223372036854775807) (hb : s.size ≤ 9223372036854775807) (htab : FmtI.Pow w) :
    Calls Tryz.prog 6 #[.agg #[.bool p, .slice A xs.length c, .string s]] w fun e w' => e = .returned (.string ⟨(FA (p, xs, s)).toArray⟩) ∧ Below w.heap.size w w' := by
  have B0 := Lib.hid ((Below.refl w.heap.size w).alloc (Nat.le_refl _) (Obj.cells #[Value.bool p, Value.slice A xs.length c, Value.string s] 26))
  have FO := Lib.hid (fun W => formOf p A xs.length c s W)
  have hF : FA (p, xs, s) = if argV (p, xs, s) = true then fmtA (p, xs, s) else [] := rfl
  rw [argV_form] at hF
  cases p with
  | false =>
    have IV := Lib.hid (fun W (h : Below w.heap.size w W) => intValid A c xs s W (hA.below h) hl hs)
    simp only [formT, Bool.false_eq_true, if_false] at FO hF
    cases hv : intV xs s with
    | false =>
      have HF := Lib.hid (show FA (false, xs, s) = [] by rw [hF, hv]; rfl)
      rw [hv] at IV
      clear hA hl hs hF hv
      go_enter Tryz.func6, Tryz.ntmps6
      go_wp2_with fail
      refine (Calls.mono (FO.out _)) ?_
      rintro e w1 ⟨rfl, b1⟩
      have B1 := Lib.hid (B0.out.trans (b1.mono B0.out.size))
      clear b1
      go_wp2_with fail
      refine (Calls.mono (IV.out _ B1.out)) ?_
      rintro e w2 ⟨rfl, b2⟩
      have B2 := Lib.hid (B1.out.trans (b2.mono B1.out.size))
      clear b2
      go_wp2
      go_ret
      exact ⟨TextI.ret_str HF.out.symm, B2.out⟩
    | true =>
      have hv2 : argV (false, xs, s) = true := by rw [argV_form]; exact hv
      obtain ⟨k, rfl, hk, _⟩ := argV_int.1 hv2
      have HF := Lib.hid (show FA (false, [k], s) = fmtS k by rw [hF, hv]; rfl)
      have hsk := hs k List.mem_cons_self
      have hlk : k.2.length ≤ 1000000000 := by simp [szs, ssl] at hl; omega
      have IT := Lib.hid (fun W (h : Below w.heap.size w W) => intText s A c k W (hA.below h) hk hlk hsk (htab.below h))
      rw [hv] at IV
      clear hA hl hs hF hv hv2 hk hsk hlk htab
      go_enter Tryz.func6, Tryz.ntmps6
      go_wp2_with fail
      refine (Calls.mono (FO.out _)) ?_
      rintro e w1 ⟨rfl, b1⟩
      have B1 := Lib.hid (B0.out.trans (b1.mono B0.out.size))
      clear b1
      go_wp2_with fail
      refine (Calls.mono (IV.out _ B1.out)) ?_
      rintro e w2 ⟨rfl, b2⟩
      have B2 := Lib.hid (B1.out.trans (b2.mono B1.out.size))
      clear b2
      go_wp2_with fail
      refine (Calls.mono (IT.out _ B2.out)) ?_
      rintro e w3 ⟨rfl, b3⟩
      have B3 := Lib.hid (B2.out.trans (b3.mono B2.out.size))
      clear b3
      go_wp2
      go_ret
      exact ⟨TextI.ret_str HF.out.symm, B3.out⟩
  | true =>
    have IV := Lib.hid (fun W (h : Below w.heap.size w W) => listValid A c xs s W (hA.below h) hl hs hb)
    simp only [formT, if_true] at FO hF
    cases hv : lstV xs s with
    | false =>
      have HF := Lib.hid (show FA (true, xs, s) = [] by rw [hF, hv]; rfl)
      rw [hv] at IV
      clear hA hl hs hF hv
      go_enter Tryz.func6, Tryz.ntmps6
      go_wp2_with fail
      refine (Calls.mono (FO.out _)) ?_
      rintro e w1 ⟨rfl, b1⟩
      have B1 := Lib.hid (B0.out.trans (b1.mono B0.out.size))
      clear b1
      go_wp2_with fail
      refine (Calls.mono (IV.out _ B1.out)) ?_
      rintro e w2 ⟨rfl, b2⟩
      have B2 := Lib.hid (B1.out.trans (b2.mono B1.out.size))
      clear b2
      go_wp2
      go_ret
      exact ⟨TextI.ret_str HF.out.symm, B2.out⟩
    | true =>
      have HF := Lib.hid (show FA (true, xs, s) = headsT xs ++ baseT s by rw [hF, hv]; rfl)
      have IT := Lib.hid (fun W (h : Below w.heap.size w W) => listText s A c xs W (hA.below h) hv hl hs (htab.below h))
      rw [hv] at IV
      clear hA hl hs hF hv htab
      go_enter Tryz.func6, Tryz.ntmps6
      go_wp2_with fail
      refine (Calls.mono (FO.out _)) ?_
      rintro e w1 ⟨rfl, b1⟩
      have B1 := Lib.hid (B0.out.trans (b1.mono B0.out.size))
      clear b1
      go_wp2_with fail
      refine (Calls.mono (IV.out _ B1.out)) ?_
      rintro e w2 ⟨rfl, b2⟩
      have B2 := Lib.hid (B1.out.trans (b2.mono B1.out.size))
      clear b2
      go_wp2_with fail
      refine (Calls.mono (IT.out _ B2.out)) ?_
      rintro e w3 ⟨rfl, b3⟩
      have B3 := Lib.hid (B2.out.trans (b3.mono B2.out.size))
      clear b3
      go_wp2
      go_ret
      exact ⟨TextI.ret_str HF.out.symm, B3.out⟩
end ArgI
end Go.Proofs.YtiilopfhlmeaoaaGreatDoor
