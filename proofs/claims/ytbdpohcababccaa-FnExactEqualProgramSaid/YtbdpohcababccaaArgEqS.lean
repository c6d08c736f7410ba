import Derived.Test.YtbdpohcababccaaArgEq
import Derived.Laws.StructEq
import Derived.Deep.RegionLaw
/-
  Sums and arguments: comparison, of the model.
-/
namespace Go.Proofs.Ytbdpohcababccaa
open Go.RowKit
namespace ArgP
open RowK Mem ArgM ArgI


set_option maxHeartbeats 1000000 in
set_option maxRecDepth 100000 in
theorem same (z u : Int) (A B : Option Addr) (c d : Nat) (xs ys : List (Int × ByteArray)) (w : World) (hA : ArgS term w A xs.length c xs) (hB : ArgS term w B ys.length d ys) (hl : xs.length ≤ 1000000000) (_hl2 : ys.length ≤ 1000000000) :
    Calls Try.prog 26 #[.agg #[.int .i64 z, .slice A xs.length c], .agg #[.int .i64 u, .slice B ys.length d]] w fun e w' => e = .returned (.bool (decide (((z, xs) : SumT) = (u, ys)))) ∧ Below w.heap.size w w' := by
  have B0 := Lib.hid (((Below.refl w.heap.size w).alloc (Nat.le_refl _) (Obj.cells #[Value.int IntKind.i64 z, Value.slice A xs.length c] 78)).alloc (by simp) (Obj.cells #[Value.int IntKind.i64 u, Value.slice B ys.length d] 78))
  have V0 := Lib.hid ((Lvar.new w #[Value.int IntKind.i64 z, Value.slice A xs.length c] 78).alloc (Obj.cells #[Value.int IntKind.i64 u, Value.slice B ys.length d] 78))
  have V1 := Lib.hid (Lvar.new (w.alloc (Obj.cells #[Value.int IntKind.i64 z, Value.slice A xs.length c] 78)) #[Value.int IntKind.i64 u, Value.slice B ys.length d] 78)
  simp only [World.size_alloc] at V1
  have HO := Lib.hid (sum_dec z u xs ys)
  generalize decide (((z, xs) : SumT) = (u, ys)) = R at *
  by_cases h1 : z = u
  · subst h1
    have HO2 := Lib.hid (show R = decide (xs = ys) by rw [HO.out]; simp)
    clear HO
    by_cases hlen : xs.length = ys.length
    · have HEN := Lib.hid hlen
      have hne : ((xs.length : Int) != (ys.length : Int)) = false := by simp [hlen]
      have HA := Lib.hid hA
      have HB := Lib.hid hB
      rw [← hlen] at V1 ⊢
      clear hA hB hlen hne
      go_enter Try.func26, Try.ntmps26
      go_wp2
      go_loopw [5] (fun i wr => ∃ k : Nat, k ≤ xs.length ∧ i = .int .i64 k ∧ xs.take k = ys.take k ∧ Below w.heap.size w wr ∧ Lvar wr w.heap.size #[Value.int IntKind.i64 z, Value.slice A xs.length c] ∧ Lvar wr (w.heap.size + 1) #[Value.int IntKind.i64 z, Value.slice B xs.length d]) (fun i _ => xs.length - (intOf i).toNat)
      case atStart => exact ⟨0, Nat.zero_le _, rfl, rfl, by have := B0.out; rw [← HEN.out] at this; exact this, by have := V0.out; rw [← HEN.out] at this; exact this, V1.out⟩
      case round =>
        obtain ⟨k, hk, rfl, hall, hb, hv, hv2⟩ := hrel
        have HAL := Lib.hid hall
        have HBB := Lib.hid hb
        have HV := Lib.hid hv
        have HV2 := Lib.hid hv2
        have v1 := hv.cell 1 (.slice A xs.length c) rfl
        have u1 := hv2.cell 1 (.slice B xs.length d) rfl
        clear hall hb hv hv2 V0 V1 B0
        by_cases hlt : k < xs.length
        · have hlt2 : k < ys.length := by have := HEN.out; omega
          obtain ⟨b1, o1, rfl, hbb1, c0, c1⟩ := (HA.out.below HBB.out).term_at hlt
          have hB2 := HB.out
          obtain ⟨b2, o2, rfl, hbb2, e0, e1⟩ := (hB2.below HBB.out).term_at hlt2
          have HN := Lib.hid (show xs[k] ≠ ys[k] → decide (xs = ys) = false from fun h => decide_eq_false (fun e => h (by subst e; rfl)))
          have HY := Lib.hid (fun h => take_same hlt hlt2 HAL.out h)
          clear hB2
          generalize xs[k] = x at *
          generalize ys[k] = y at *
          obtain ⟨z, s⟩ := x
          obtain ⟨u, t⟩ := y
          simp only at c0 c1 e0 e1
          have hi0 : (0 : Int) ≤ (k : Int) := by omega
          have hi1 : (k : Int) < (xs.length : Int) := by omega
          by_cases h1 : z = u
          · subst h1
            by_cases h2 : s = t
            · subst h2
              have HT := Lib.hid (HY.out rfl)
              clear HN HY
              go_wp2
              go_quiet (fail)
              go_wp2
              go_roundw
              case rel => exact ⟨k + 1, by omega, by go_num, HT.out, below_drewN HBB.out _, HV.out.below (below_drewN (Below.refl _ _) _), HV2.out.below (below_drewN (Below.refl _ _) _)⟩
              case measure => simp [intOf]; omega
            · have hs2 : (s.toList == t.toList) = false := beq_eq_false_iff_ne.2 (fun e => h2 (NameM.toList_inj (by rw [← ByteArray.toList_eq, ← ByteArray.toList_eq]; exact e)))
              have HR := Lib.hid (HN.out (fun e => h2 (by injection e)))
              clear HN HY h2
              go_wp2
              go_quiet (fail)
              go_wp2
              go_ret
              exact ⟨ret_b (by rw [HO2.out, HR.out]), below_drewN HBB.out _⟩
          · have hz : (z == u) = false := beq_eq_false_iff_ne.2 h1
            have HR := Lib.hid (HN.out (fun e => h1 (by injection e)))
            clear HN HY h1
            go_wp2
            go_quiet (fail)
            go_wp2
            go_ret
            exact ⟨ret_b (by rw [HO2.out, HR.out]), below_drewN HBB.out _⟩
        · obtain rfl : k = xs.length := by omega
          have HR := Lib.hid (show R = true by
            rw [HO2.out]
            refine decide_eq_true ?_
            have := HAL.out
            rwa [List.take_length, HEN.out, List.take_length] at this)
          clear HAL
          go_wp2
          go_ret
          exact ⟨ret_b HR.out.symm, HBB.out⟩
    · have HR := Lib.hid (show R = false by rw [HO2.out]; exact decide_eq_false (fun e => hlen (by rw [e])))
      have hne : ((xs.length : Int) != (ys.length : Int)) = true := by simp; omega
      have hne2 : (xs.length == ys.length) = false := beq_eq_false_iff_ne.2 hlen
      clear hA hB hlen
      go_enter Try.func26, Try.ntmps26
      go_wp2
      go_ret
      exact ⟨ret_b HR.out.symm, B0.out⟩
  · have hz : (z == u) = false := beq_eq_false_iff_ne.2 h1
    have HF := Lib.hid (show R = false by rw [HO.out, decide_eq_false h1]; rfl)
    clear h1 hA hB
    go_enter Try.func26, Try.ntmps26
    go_wp2
    go_ret
    exact ⟨ret_b HF.out.symm, B0.out⟩

set_option maxHeartbeats 1000000 in
set_option maxRecDepth 100000 in
theorem equalArg (p q : Bool) (s t : ByteArray) (A B : Option Addr) (c d : Nat) (xs ys : List SumT) (w : World) (hA : ArgS Mem.sum w A xs.length c xs) (hB : ArgS Mem.sum w B ys.length d ys) (hl : xs.length + szs ssl xs ≤ 1000000000) (hl2 : ys.length + szs ssl ys ≤ 1000000000) :
    Calls Try.prog 25 #[.agg #[.bool p, .slice A xs.length c, .string s], .agg #[.bool q, .slice B ys.length d, .string t]] w fun e w' => e = .returned (.bool (argE p q xs ys s t)) ∧ Below w.heap.size w w' := by
  have B0 := Lib.hid (((Below.refl w.heap.size w).alloc (Nat.le_refl _) (Obj.cells #[Value.bool p, Value.slice A xs.length c, Value.string s] 47)).alloc (by simp) (Obj.cells #[Value.bool q, Value.slice B ys.length d, Value.string t] 47))
  have V0 := Lib.hid ((Lvar.new w #[Value.bool p, Value.slice A xs.length c, Value.string s] 47).alloc (Obj.cells #[Value.bool q, Value.slice B ys.length d, Value.string t] 47))
  have V1 := Lib.hid (Lvar.new (w.alloc (Obj.cells #[Value.bool p, Value.slice A xs.length c, Value.string s] 47)) #[Value.bool q, Value.slice B ys.length d, Value.string t] 47)
  simp only [World.size_alloc] at V1
  have HO := Lib.hid (show argE p q xs ys s t = ((p == q) && (decide (s = t) && decide (xs = ys))) from rfl)
  generalize argE p q xs ys s t = R at *
  by_cases h1 : p = q
  · subst h1
    by_cases h2 : s = t
    · subst h2
      have HO2 := Lib.hid (show R = decide (xs = ys) by rw [HO.out]; simp)
      clear HO
      have hxl : xs.length ≤ 1000000000 := by omega
      by_cases hlen : xs.length = ys.length
      · have HL := Lib.hid hl
        have HL2 := Lib.hid hl2
        have HEN := Lib.hid hlen
        have HA := Lib.hid hA
        have HB := Lib.hid hB
        rw [← hlen] at V1 V0 B0 ⊢
        clear hA hB hlen hl hl2
        cases p
        all_goals
          go_enter Try.func25, Try.ntmps25
          go_wp2
          go_loopw [5] (fun i wr => ∃ k : Nat, k ≤ xs.length ∧ i = .int .i64 k ∧ xs.take k = ys.take k ∧ Below w.heap.size w wr ∧ Lvar wr w.heap.size #[Value.bool _, Value.slice A xs.length c, Value.string s] ∧ Lvar wr (w.heap.size + 1) #[Value.bool _, Value.slice B xs.length d, Value.string s]) (fun i _ => xs.length - (intOf i).toNat)
          case atStart => exact ⟨0, Nat.zero_le _, rfl, rfl, B0.out, V0.out, V1.out⟩
          case round =>
            obtain ⟨k, hk, rfl, hall, hb, hv, hv2⟩ := hrel
            have HAL := Lib.hid hall
            have HBB := Lib.hid hb
            have HV := Lib.hid hv
            have HV2 := Lib.hid hv2
            have v1 := hv.cell 1 (.slice A xs.length c) rfl
            have u1 := hv2.cell 1 (.slice B xs.length d) rfl
            clear hall hb hv hv2 V0 V1 B0
            by_cases hlt : k < xs.length
            · have hlt2 : k < ys.length := by have := HEN.out; omega
              obtain ⟨b1, o1, B1, d1, rfl, hbb1, c0, c1, r1⟩ := (HA.out.below HBB.out).sum_at hlt
              obtain ⟨b2, o2, B2, d2, rfl, hbb2, e0, e1, r2⟩ := (HB.out.below HBB.out).sum_at hlt2
              have hs9 := sum_len hlt HL.out
              have hs8 := sum_len hlt2 HL2.out
              have HN := Lib.hid (show xs[k] ≠ ys[k] → decide (xs = ys) = false from fun h => decide_eq_false (fun e => h (by subst e; rfl)))
              have HY := Lib.hid (fun h => take_same hlt hlt2 HAL.out h)
              generalize xs[k] = x at *
              generalize ys[k] = y at *
              obtain ⟨z, zs⟩ := x
              obtain ⟨u, us⟩ := y
              simp only at c0 c1 e0 e1 r1 r2 hs9 hs8
              have hd : Below wr.heap.size wr wr.drew := (Below.refl _ _).drew
              have EQ := Lib.hid (same z u B1 B2 d1 d2 zs us wr.drew (r1.below hd) (r2.below hd) hs9 hs8)
              have hi0 : (0 : Int) ≤ (k : Int) := by omega
              have hi1 : (k : Int) < (xs.length : Int) := by omega
              by_cases hv : ((z, zs) : SumT) = (u, us)
              · have HT := Lib.hid (HY.out hv)
                rw [decide_eq_true hv] at EQ
                clear r1 r2 hd HN HY hv
                go_wp2_with fail
                go_region_law (first
                  | (go_simp; go_at_call 26; refine (Calls.mono EQ.out) ?_; rintro e w1 ⟨rfl, b1⟩))
                all_goals
                  have bb : Below wr.heap.size wr w1 := (Below.refl wr.heap.size wr).drew.trans b1
                  have B9 := Lib.hid (HBB.out.trans (bb.mono HBB.out.size))
                  have W1 := Lib.hid (HV.out.below bb)
                  have W2 := Lib.hid (HV2.out.below bb)
                  clear b1 bb
                  go_wp2
                  go_roundw
                  case rel => exact ⟨k + 1, by omega, by go_num, HT.out, B9.out, W1.out, W2.out⟩
                  case measure => simp [intOf]; omega
              · have HR := Lib.hid (HN.out hv)
                rw [decide_eq_false hv] at EQ
                clear r1 r2 hd HN HY hv
                go_wp2_with fail
                go_region_law (first
                  | (go_simp; go_at_call 26; refine (Calls.mono EQ.out) ?_; rintro e w1 ⟨rfl, b1⟩))
                all_goals
                  have bb : Below wr.heap.size wr w1 := (Below.refl wr.heap.size wr).drew.trans b1
                  have B9 := Lib.hid (HBB.out.trans (bb.mono HBB.out.size))
                  clear b1 bb
                  go_wp2
                  go_ret
                  exact ⟨ret_b (by rw [HO2.out, HR.out]), B9.out⟩
            · obtain rfl : k = xs.length := by omega
              have HR := Lib.hid (show R = true by
                rw [HO2.out]
                refine decide_eq_true ?_
                have := HAL.out
                rwa [List.take_length, HEN.out, List.take_length] at this)
              clear HAL
              go_wp2
              go_ret
              exact ⟨ret_b HR.out.symm, HBB.out⟩
      · have HR := Lib.hid (show R = false by rw [HO2.out]; exact decide_eq_false (fun e => hlen (by rw [e])))
        have hne : ((xs.length : Int) != (ys.length : Int)) = true := by simp; omega
        have hne2 : (xs.length == ys.length) = false := beq_eq_false_iff_ne.2 hlen
        clear hA hB hlen
        cases p
        all_goals
          go_enter Try.func25, Try.ntmps25
          go_wp2
          go_ret
          exact ⟨ret_b HR.out.symm, B0.out⟩
    · have hs := str_ne h2
      have HF := Lib.hid (show R = false by rw [HO.out, decide_eq_false h2]; simp)
      clear HO h2 hA hB
      cases p
      all_goals
        go_enter Try.func25, Try.ntmps25
        go_wp2
        go_ret
        exact ⟨ret_b HF.out.symm, B0.out⟩
  · have HF := Lib.hid (show R = false by rw [HO.out, beq_eq_false_iff_ne.2 h1]; rfl)
    clear HO hA hB
    cases p <;> cases q
    case false.false => exact absurd rfl h1
    case true.true => exact absurd rfl h1
    all_goals
      clear h1
      go_enter Try.func25, Try.ntmps25
      go_wp2
      go_ret
      exact ⟨ret_b HF.out.symm, B0.out⟩
end ArgP
end Go.Proofs.Ytbdpohcababccaa
