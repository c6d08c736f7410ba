import Derived.Test.YtjjhpabmhnincaaGreatDoorDraw9b
import Derived.Test.YtjjhpabmhnincaaGreatDoorArgParseS
import Derived.Test.YtjjhpabmhnincaaGreatDoorArgMath2
import Derived.Deep.DeepCutAuto
import Derived.OwnWalk
/-
  The walk of the law FnSums.
-/
namespace Go.Proofs.YtjjhpabmhnincaaGreatDoor
open Go.RowKit
namespace LawSums

open RowK Mem ArgM TextM CutI
theorem got {t : List UInt8} : (parseS t).isSome = true → FS ((parseS t).getD (0, [])) = t ∧ sumV ((parseS t).getD (0, [])) = true := by
  cases h : parseS t with
  | none => intro h; cases h
  | some p =>
    intro _
    obtain ⟨h1, _, h3⟩ := parseS_iff.1 h
    exact ⟨by rw [Option.getD_some, FS, if_pos h1]; exact h3, h1⟩
theorem small (t : List UInt8) : ((parseS t).getD (0, [])).2.length ≤ 4 ∧ ∀ x ∈ ((parseS t).getD (0, [])).2, x.2.size ≤ 9223372036854775807 := by
  cases h : parseS t with
  | none => exact ⟨by decide, fun x hx => by cases hx⟩
  | some s =>
    have hv := sumV_iff.1 (parseS_iff.1 h).1
    exact ⟨hv.2.1, fun x hx => by
      have := (valid_shape (intName_valid (termV_iff.1 (hv.2.2.1 x hx)).2.2)).2
      omega⟩

set_option maxHeartbeats 8000000 in
set_option maxRecDepth 100000 in
theorem walk (A : Option Addr) (n c : Nat) (w0 : World) (hc : Draw.Code w0 A n) (henv : CutI.Env w0) :
    Calls Tryz.prog 4 #[.slice A n c] w0 fun e w' => e = .returned (.bool true) ∧ Below w0.heap.size w0 w' := by
  by_cases hn : n ≤ 1048576
  · go_enter Tryz.func4, Tryz.ntmps4
    go_wp2_with fail
    refine (Draw.small A n c hn _).mono ?_
    rintro e w' ⟨rfl, rfl⟩
    go_wp2_with fail
    refine (Calls.mono (Draw.drawFormatSum A n c hn _ hc)) ?_
    rintro e w1 ⟨z, B, d, xs, rfl, hl, hs, hA, b1⟩
    have hss : ∀ t ∈ xs, t.2.size ≤ 9223372036854775807 := fun t ht => by have := hs t ht; omega
    have s1 : Below w1.heap.size w1 (w1.alloc (Obj.cells #[Value.int .i64 z, Value.slice B xs.length d] 40)) := (Below.refl _ _).alloc (Nat.le_refl _) _
    have Ll := Lib.hid (Lvar.new w1 #[Value.int .i64 z, Value.slice B xs.length d] 40)
    have FI := Lib.hid (fun W (h : Below w1.heap.size w1 W) => ArgI.formatSum z B d xs W (hA.below h) (by omega) hss ((henv.below b1).below h).par.pow)
    have FP := Lib.hid (fun W (h : Below w1.heap.size w1 W) => ArgP.formatSum z B d xs W (hA.below h) (by omega) hss)
    have VI := Lib.hid (fun W (h : Below w1.heap.size w1 W) => ArgI.validSum z B d xs W (hA.below h) (by omega) hss)
    have VP := Lib.hid (fun W (h : Below w1.heap.size w1 W) => ArgP.validSum z B d xs W (hA.below h) (by omega) hss)
    have hFl := Draw.FS_len (z, xs)
    have hT : (⟨(FS (z, xs)).toArray⟩ : ByteArray).data.toList = FS (z, xs) := by simp
    have PI := Lib.hid (fun W (h : Below w1.heap.size w1 W) => ArgI.parseSum ⟨(FS (z, xs)).toArray⟩ W (by rw [TextI.size_mk]; omega) ((henv.below b1).below h))
    have PS := Lib.hid (fun W => ArgP.parseSum ⟨(FS (z, xs)).toArray⟩ W (by rw [TextI.size_mk]; omega))
    rw [hT] at PI PS
    have H1 := Lib.hid (got (t := FS (z, xs)))
    have hx1 := small (FS (z, xs))
    have FX := Lib.hid (fun W (h : Below w1.heap.size w1 W) z G c ts (hG : ArgS term W G ts.length c ts) (h1 : ts.length ≤ 4) (h2 : ∀ t ∈ ts, t.2.size ≤ 9223372036854775807) => ArgI.formatSum z G c ts W hG (by omega) h2 ((henv.below b1).below h).par.pow)
    have B1 := Lib.hid b1
    have S1 := Lib.hid s1
    unfold ArgI.GaveSumO at PI PS
    clear hT hs hss hA b1 s1 hFl
    generalize (parseS (FS (z, xs))).isSome = q1 at *
    generalize (parseS (FS (z, xs))).getD (0, []) = X1 at *
    generalize FS (z, xs) = T at *
    generalize sumV (z, xs) = sv at *
    obtain ⟨x1, xs1⟩ := X1
    simp only at hx1 H1
    go_wp2_with fail
    refine (Calls.mono (FI.out _ S1.out)) ?_
    rintro e w2 ⟨rfl, b2⟩
    have B2 := Lib.hid (S1.out.trans (b2.mono S1.out.size))
    have L2 := Lib.hid (Ll.out.below b2)
    clear b2 FI S1 Ll
    go_wp2_with fail
    refine (Calls.mono (PI.out _ B2.out)) ?_
    rintro e w3 ⟨G, cg, rfl, oG, b3⟩
    have s3 : Below w3.heap.size w3 (w3.alloc (Obj.cells #[Value.int .i64 x1, Value.slice G xs1.length cg] 40)) := (Below.refl _ _).alloc (Nat.le_refl _) _
    have B3a := B2.out.trans (b3.mono B2.out.size)
    have B3 := Lib.hid (B3a.trans (s3.mono B3a.size))
    have L3 := Lib.hid ((L2.out.below b3).below s3)
    have V3 := Lib.hid (Lvar.new w3 #[Value.int .i64 x1, Value.slice G xs1.length cg] 40)
    have O3 := Lib.hid (oG.arg.below s3)
    clear oG b3 s3 B3a B2 L2 PI
    go_wp2_with fail
    refine (Calls.mono (PS.out _)) ?_
    rintro e w4 ⟨H, ch, rfl, oH, b4⟩
    have s4 : Below w4.heap.size w4 (w4.alloc (Obj.cells #[Value.int .i64 x1, Value.slice H xs1.length ch] 40)) := (Below.refl _ _).alloc (Nat.le_refl _) _
    have B4a := B3.out.trans (b4.mono B3.out.size)
    have B4 := Lib.hid (B4a.trans (s4.mono B4a.size))
    have L4 := (L3.out.below b4).below s4
    have V4 := (V3.out.below b4).below s4
    have O4 := Lib.hid ((O3.out.below b4).below s4)
    clear oH b4 s4 B4a B3 L3 V3 O3 PS
    go_upto_region 7 with fail
    generalize w4.alloc (Obj.cells #[Value.int .i64 x1, Value.slice H xs1.length ch] 40) = w5 at *
    have LL := Lib.hid L4
    have VV := Lib.hid V4
    have v0 := L4.cell 0 (.int .i64 z) rfl
    have v1 := L4.cell 1 (.slice B xs.length d) rfl
    have B5 := Lib.hid (B4.out.trans (Below.refl _ _).drew)
    clear B4 L4 V4
    go_cut [54] from 30 to 53 (fun s wx => s = .bool false ∧ Below w1.heap.size w1 wx)
    case first =>
      cases q1 with
      | false =>
        first
        | go_region_law (first
          | (go_simp; first
            | (go_at_call 24; (with_reducible refine (Calls.mono (FP.out _ B5.out)) ?_); rintro e u6 ⟨rfl, b6⟩; (have B6 := Lib.hid (B5.out.trans (b6.mono B5.out.size))); (have L6 := Lib.hid ((LL.out.below (Below.refl _ _).drew).below b6)); (have v60 := L6.out.cell 0 (.int .i64 z) rfl); (have v61 := L6.out.cell 1 (.slice B xs.length d) rfl); clear b6)
            | (go_at_call 25; (with_reducible refine (Calls.mono (VI.out _ B6.out)) ?_); rintro e u7 ⟨rfl, b7⟩; (have B7 := Lib.hid (B6.out.trans (b7.mono B6.out.size))); (have L7 := Lib.hid (L6.out.below b7)); (have v70 := L7.out.cell 0 (.int .i64 z) rfl); (have v71 := L7.out.cell 1 (.slice B xs.length d) rfl); clear b7)
            | (go_at_call 26; (with_reducible refine (Calls.mono (VP.out _ B7.out)) ?_); rintro e u8 ⟨rfl, b8⟩; (have B8 := Lib.hid (B7.out.trans (b8.mono B7.out.size))); clear b8)))
        | fail
        all_goals
          go_wp2_with fail
          go_meet
          exact ⟨by simp, B8.out⟩
      | true =>
        have hfx := H1.out rfl
        have FX1 := Lib.hid (fun W (h : Below w1.heap.size w1 W) (k : Below w5.heap.size w5 W) => by
          have f := FX.out W h x1 G cg xs1 (O4.out.below k) hx1.1 hx1.2
          rw [hfx.1] at f
          exact f)
        go_region_law (first
          | (go_simp; first
            | (go_at_call 24; (with_reducible refine (Calls.mono (FP.out _ B5.out)) ?_); rintro e u6 ⟨rfl, b6⟩; (have B6 := Lib.hid (B5.out.trans (b6.mono B5.out.size))); (have K6 := Lib.hid ((Below.refl w5.heap.size w5).drew.trans (b6.mono (Nat.le_refl _)))); (have L6 := Lib.hid ((LL.out.below (Below.refl _ _).drew).below b6)); (have v60 := L6.out.cell 0 (.int .i64 z) rfl); (have v61 := L6.out.cell 1 (.slice B xs.length d) rfl); clear b6)
            | (go_at_call 25; (with_reducible refine (Calls.mono (VI.out _ B6.out)) ?_); rintro e u7 ⟨rfl, b7⟩; (have B7 := Lib.hid (B6.out.trans (b7.mono B6.out.size))); (have K7 := Lib.hid (K6.out.trans (b7.mono K6.out.size))); (have L7 := Lib.hid (L6.out.below b7)); (have v70 := L7.out.cell 0 (.int .i64 z) rfl); (have v71 := L7.out.cell 1 (.slice B xs.length d) rfl); clear b7)
            | (go_at_call 26; (with_reducible refine (Calls.mono (VP.out _ B7.out)) ?_); rintro e u8 ⟨rfl, b8⟩; (have B8 := Lib.hid (B7.out.trans (b8.mono B7.out.size))); (have K8 := Lib.hid (K7.out.trans (b8.mono K7.out.size))); (have V8 := VV.out.below K8.out); (have y80 := V8.cell 0 (.int .i64 x1) rfl); (have y81 := V8.cell 1 (.slice G xs1.length cg) rfl); clear b8 V8)
            | (go_at_call 21; (with_reducible refine (Calls.mono (FX1.out _ B8.out K8.out)) ?_); rintro e u9 ⟨rfl, b9⟩; (have B9 := Lib.hid (B8.out.trans (b9.mono B8.out.size))); clear b9)))
        all_goals
          go_wp2_with fail
          go_meet
          exact ⟨by simp, B9.out⟩
    case rest =>
      obtain ⟨w7, rfl⟩ : ∃ w7 : World, w7 = wc := ⟨_, rfl⟩
      obtain ⟨rfl, b7⟩ := hcut
      have B7 := Lib.hid (B1.out.trans (b7.mono B1.out.size))
      clear b7 v0 v1 B5 LL VV O4 H1 FP VI VP FX B1 hx1
      have hc2 := hc.keep B7.out
      go_wp2_with fail
      refine (Calls.mono (Draw.drawParseSum A n c hn _ hc2)) ?_
      rintro e w21 ⟨t2, ht2, rfl, b21⟩
      have E2 := Lib.hid ((henv.below B7.out).below b21)
      have PI2 := Lib.hid (fun W (h : Below w21.heap.size w21 W) => ArgI.parseSum t2 W (by omega) (E2.out.below h))
      have PS2 := Lib.hid (fun W => ArgP.parseSum t2 W (by omega))
      have H2 := Lib.hid (got (t := t2.data.toList))
      have hx2 := small t2.data.toList
      have B21 := Lib.hid (B7.out.trans (b21.mono B7.out.size))
      unfold ArgI.GaveSumO at PI2 PS2
      clear hc2 ht2 b21 B7
      generalize (parseS t2.data.toList).isSome = q2 at *
      generalize (parseS t2.data.toList).getD (0, []) = X2 at *
      obtain ⟨x2, xs2⟩ := X2
      simp only at hx2 H2
      go_wp2_with fail
      refine (Calls.mono (PI2.out _ (Below.refl _ _))) ?_
      rintro e w22 ⟨G2, cg2, rfl, oG2, b22⟩
      have s22 : Below w22.heap.size w22 (w22.alloc (Obj.cells #[Value.int .i64 x2, Value.slice G2 xs2.length cg2] 40)) := (Below.refl _ _).alloc (Nat.le_refl _) _
      have B22 := Lib.hid (b22.trans (s22.mono b22.size))
      have V22 := Lib.hid (Lvar.new w22 #[Value.int .i64 x2, Value.slice G2 xs2.length cg2] 40)
      have O22 := Lib.hid (oG2.arg.below s22)
      clear oG2 b22 s22 PI2
      go_wp2_with fail
      refine (Calls.mono (PS2.out _)) ?_
      rintro e w23 ⟨J2, cj2, rfl, oJ2, b23⟩
      have s23 : Below w23.heap.size w23 (w23.alloc (Obj.cells #[Value.int .i64 x2, Value.slice J2 xs2.length cj2] 40)) := (Below.refl _ _).alloc (Nat.le_refl _) _
      have B23a := B22.out.trans (b23.mono B22.out.size)
      have B23 := Lib.hid (B23a.trans (s23.mono B23a.size))
      have V23 := Lib.hid ((V22.out.below b23).below s23)
      have O23 := Lib.hid ((O22.out.below b23).below s23)
      clear oJ2 b23 s23 B23a B22 V22 O22 PS2
      have BX := Lib.hid (B21.out.trans (B23.out.mono B21.out.size))
      cases q2 with
      | false =>
        go_wp2
        go_ret
        exact ⟨by simp, BX.out⟩
      | true =>
        have hfx := H2.out rfl
        have y0 := V23.out.cell 0 (.int .i64 x2) rfl
        have y1 := V23.out.cell 1 (.slice G2 xs2.length cg2) rfl
        have fo := ArgI.formatSum x2 G2 cg2 xs2 _ O23.out (by omega) hx2.2 (E2.out.below B23.out).par.pow
        rw [hfx.1, mk_list] at fo
        have FOO := Lib.hid fo
        have VV2 := Lib.hid (fun W (h : Below _ _ W) => ArgI.validSum x2 G2 cg2 xs2 W (O23.out.below h) (by omega) hx2.2)
        rw [hfx.2] at VV2
        clear fo
        go_wp2_with fail
        refine (Calls.mono FOO.out) ?_
        rintro e w24 ⟨rfl, b24⟩
        have z0 := (V23.out.below b24).cell 0 (.int .i64 x2) rfl
        have z1 := (V23.out.below b24).cell 1 (.slice G2 xs2.length cg2) rfl
        go_wp2_with fail
        refine (Calls.mono (VV2.out _ b24)) ?_
        rintro e w25 ⟨rfl, b25⟩
        have B25 := Lib.hid ((BX.out.trans (b24.mono BX.out.size)).trans (b25.mono (BX.out.trans (b24.mono BX.out.size)).size))
        clear b24 b25 y0 y1 z0 z1
        go_wp2
        go_ret
        exact ⟨by simp, B25.out⟩
  · go_enter Tryz.func4, Tryz.ntmps4
    go_wp2_with fail
    refine (Draw.great A n c hn _).mono ?_
    rintro e w' ⟨rfl, rfl⟩
    go_wp2
    go_ret
    exact ⟨rfl, Below.refl _ _⟩
end LawSums
end Go.Proofs.YtjjhpabmhnincaaGreatDoor
