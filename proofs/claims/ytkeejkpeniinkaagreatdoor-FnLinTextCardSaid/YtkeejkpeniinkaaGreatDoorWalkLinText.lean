import Derived.Test.YtkeejkpeniinkaaGreatDoorDraw5
import Derived.Test.YtkeejkpeniinkaaGreatDoorParseCons
import Derived.Deep.DeepCutAuto
import Derived.OwnWalk
/-
  The walk of the law FnLinText.
-/
namespace Go.Proofs.YtkeejkpeniinkaaGreatDoor
open Go.RowKit
namespace LawLinText

open RowK LinM TextM TextI
theorem from_fmt {ok : Bool} {ss : List ByteArray} {z : Int} {zs : List Int} {p : Int × List Int} (hok : ok = true → Names ss) (h : parseL ok ss (F ok ss z zs) = some p) : p.1 = z ∧ p.2 = zs := by
  obtain ⟨h1, h2, ⟨⟨a1, a2⟩, a3⟩, h4⟩ := parse_some h
  have hn := hok h1
  unfold F at h2
  split at h2
  · rename_i hv
    have HV := vldB_iff.1 hv.2
    have h8 := hn.1
    have z1 := ArithM.inC_iff.1 HV.2.2.1
    exact fmt_inj (hi := 1000000000) (by omega) hn ⟨⟨by show (-1000000000 : Int) ≤ p.1; omega, by show p.1 ≤ 1000000000; omega⟩, fun x hx => by have := a3 x hx; omega⟩ ⟨⟨by show (-1000000000 : Int) ≤ z; omega, by show z ≤ 1000000000; omega⟩, fun x hx => by have := ArithM.inC_iff.1 (HV.2.2.2 x hx); omega⟩ (by rw [h4]; omega) (by omega) h2
  · exact absurd h2 (fmt_ne _ _ _)
theorem to_fmt {ok : Bool} {ss : List ByteArray} {t : List UInt8} {p : Int × List Int} (hok : ok = true → Names ss) (h : parseL ok ss t = some p) : F ok ss p.1 p.2 = t := by
  obtain ⟨h1, h2, ⟨⟨a1, a2⟩, a3⟩, h4⟩ := parse_some h
  have hn := hok h1
  have h8 := hn.1
  unfold F
  rw [if_pos ⟨h1, vldB_iff.2 ⟨by omega, by rw [h4]; omega, ArithM.inC_iff.2 (by omega), fun x hx => ArithM.inC_iff.2 (by have := a3 x hx; omega)⟩⟩]
  exact h2
theorem cons_fmt {ok : Bool} {ss : List ByteArray} {t : List UInt8} {p : Int × List Int} (hok : ok = true → Names ss) (h : CutI.parseC ok ss t = some p) : C (F ok ss p.1 p.2) = t := by
  obtain ⟨h1, h2⟩ := CutI.parseC_some h
  have h3 := to_fmt hok h2
  obtain ⟨_, h5, _⟩ := parse_some h2
  rw [h3]
  have hd := (CutI.suf_len h1).2
  have hne : t.take (t.length - 5) ≠ [] := fun e => fmt_ne _ _ _ (h5.trans e)
  unfold C
  rw [if_neg hne, ← hd, List.take_append_drop]
theorem got {P : Option (Int × List Int)} {Q : Int × List Int → Prop} (h : ∀ p, P = some p → Q p) : P.isSome = true → Q ((P.getD (0, [])).1, (P.getD (0, [])).2) := by
  cases P with
  | none => intro h; cases h
  | some p => intro _; exact h p rfl
theorem small (ok : Bool) (ss : List ByteArray) (l : List UInt8) : ((parseL ok ss l).getD (0, [])).2.length ≤ 8 := by
  cases h : parseL ok ss l with
  | none => simp
  | some p =>
    have := (parse_some h).2.2.2
    simp only [Option.getD_some]
    omega
theorem small2 (ok : Bool) (ss : List ByteArray) (l : List UInt8) : ((CutI.parseC ok ss l).getD (0, [])).2.length ≤ 8 := by
  unfold CutI.parseC
  split
  · exact small _ _ _
  · simp
/-- Both answers are the same expression. -/
theorem same {W : World} {lo hi lo2 hi2 : Nat} {A A2 : Option Addr} (z : Int) (zs : List Int) (c c2 : Nat) (hl : zs.length ≤ 9) (h : Row lo hi W A (IntK.iv zs)) (h2 : Row lo2 hi2 W A2 (IntK.iv zs)) :
    Calls Tryz.prog 12 #[.agg #[.int .i64 z, .slice A zs.length c], .agg #[.int .i64 z, .slice A2 zs.length c2]] W fun e w' => e = .returned (.bool true) ∧ Below W.heap.size W w' := by
  have := LinS.equal lo hi lo2 hi2 z z A A2 c c2 zs zs W h h2 (by omega) (by omega)
  rwa [eqB_true rfl rfl] at this

set_option maxHeartbeats 4000000 in
set_option maxRecDepth 100000 in
theorem walk (A : Option Addr) (n c : Nat) (w0 : World) (hc : Draw.Code w0 A n) (henv : CutI.Env w0) :
    Calls Tryz.prog 3 #[.slice A n c] w0 fun e w' => e = .returned (.bool true) ∧ Below w0.heap.size w0 w' := by
  by_cases hn : n ≤ 1048576
  · go_enter Tryz.func3, Tryz.ntmps3
    go_wp2_with fail
    refine (Draw.small A n c hn _).mono ?_
    rintro e w' ⟨rfl, rfl⟩
    go_wp2_with fail
    refine (Calls.mono (Draw.lin5 A n c hn _ hc)) ?_
    rintro e w1 ⟨z, zs, B, d, ss, C, f, lo, hi, rfl, hP, hd, h4, hf, hs2, rB, rC, b1⟩
    have hz9 : zs.length ≤ 9 := hP.2.1
    have s1 : Below w1.heap.size w1 (w1.alloc (Obj.cells #[Value.int .i64 z, Value.slice B zs.length d] 26)) := (Below.refl _ _).alloc (Nat.le_refl _) _
    have Ll := Lib.hid (Lvar.new w1 #[Value.int .i64 z, Value.slice B zs.length d] 26)
    have hss : ∀ s ∈ ss, s.size ≤ 9223372036854775807 := fun s hs => by have := hs2 s hs; omega
    have FI := Lib.hid (fun W (h : Below w1.heap.size w1 W) => TextI.format lo hi z B C d f zs ss W (rB.below h) (rC.below h) (by omega) (by omega) hss ((henv.below b1).below h).par.pow)
    have FS := Lib.hid (fun W (h : Below w1.heap.size w1 W) => TextS.format lo hi z B C d f zs ss W (rB.below h) (rC.below h) (by omega) (by omega) hf hss)
    have hFl := F_len ss z zs
    have hT : (⟨(F (okB ss) ss z zs).toArray⟩ : ByteArray).data.toList = F (okB ss) ss z zs := by simp
    have PI := Lib.hid (fun W (h : Below w1.heap.size w1 W) => CutI.parse ⟨(F (okB ss) ss z zs).toArray⟩ C f ss W (rC.below h) (by rw [TextI.size_mk]; omega) (by omega) hss ((henv.below b1).below h))
    have PS := Lib.hid (fun W (h : Below w1.heap.size w1 W) => ParseS.parse ⟨(F (okB ss) ss z zs).toArray⟩ C f ss W (rC.below h) (by rw [TextI.size_mk]; omega) (by omega) hf hss)
    rw [hT] at PI PS
    have H1 := Lib.hid (got (Q := fun p => p.1 = z ∧ p.2 = zs) (fun p h => from_fmt (ok := okB ss) okB_names h))
    have RB := Lib.hid rB
    have B1 := Lib.hid b1
    have S1 := Lib.hid s1
    unfold LinI.GaveO at PI PS
    clear hT hP hd hf hs2 hss rB rC b1 s1 hFl h4
    generalize (parseL (okB ss) ss (F (okB ss) ss z zs)).isSome = q1 at *
    generalize ((parseL (okB ss) ss (F (okB ss) ss z zs)).getD (0, [])).1 = x1 at *
    generalize ((parseL (okB ss) ss (F (okB ss) ss z zs)).getD (0, [])).2 = xs1 at *
    generalize F (okB ss) ss z zs = T at *
    go_wp2_with fail
    refine (Calls.mono (FI.out _ S1.out)) ?_
    rintro e w2 ⟨rfl, b2⟩
    have B2 := Lib.hid (S1.out.trans (b2.mono S1.out.size))
    have L2 := Lib.hid (Ll.out.below b2)
    clear b2 FI S1 Ll
    go_wp2_with fail
    refine (Calls.mono (PI.out _ B2.out)) ?_
    rintro e w3 ⟨G, cg, rfl, rG, fG, b3⟩
    have s3 : Below w3.heap.size w3 (w3.alloc (Obj.cells #[Value.int .i64 x1, Value.slice G xs1.length cg] 26)) := (Below.refl _ _).alloc (Nat.le_refl _) _
    have B3a := B2.out.trans (b3.mono B2.out.size)
    have B3 := Lib.hid (B3a.trans (s3.mono B3a.size))
    have L3 := Lib.hid ((L2.out.below b3).below s3)
    have V3 := Lib.hid (Lvar.new w3 #[Value.int .i64 x1, Value.slice G xs1.length cg] 26)
    have RG3 := Lib.hid (rG.below s3)
    clear rG fG b3 s3 B3a B2 L2 PI
    go_wp2_with fail
    refine (Calls.mono (PS.out _ B3.out)) ?_
    rintro e w4 ⟨H, ch, rfl, rH, fH, b4⟩
    have s4 : Below w4.heap.size w4 (w4.alloc (Obj.cells #[Value.int .i64 x1, Value.slice H xs1.length ch] 26)) := (Below.refl _ _).alloc (Nat.le_refl _) _
    have B4a := B3.out.trans (b4.mono B3.out.size)
    have B4 := Lib.hid (B4a.trans (s4.mono B4a.size))
    have L4 := (L3.out.below b4).below s4
    have L4h := Lib.hid L4
    have V4 := Lib.hid ((V3.out.below b4).below s4)
    have RG4 := Lib.hid ((RG3.out.below b4).below s4)
    have v0 := L4.cell 0 (.int .i64 z) rfl
    have v1 := L4.cell 1 (.slice B zs.length d) rfl
    clear rH fH b4 s4 B4a L4 B3 L3 V3 RG3 PS
    go_upto_region 7 with fail
    go_cut [62] (fun s wx => s = .bool false ∧ Below w1.heap.size w1 wx)
    case first =>
      go_wp2_with fail
      refine (Calls.mono (FS.out _ B4.out)) ?_
      rintro e w5 ⟨rfl, b5⟩
      have B5 := Lib.hid (B4.out.trans (b5.mono B4.out.size))
      have L5 := L4h.out.below b5
      have V5 := V4.out.below b5
      have RG5 := Lib.hid (RG4.out.below b5)
      cases q1 with
      | false =>
        clear L5 V5 b5
        go_wp2_with fail
        go_meet
        exact ⟨rfl, B5.out⟩
      | true =>
        obtain ⟨e1, e2⟩ := H1.out rfl
        subst e1
        subst e2
        clear v0 v1
        have v0 := L5.cell 0 (.int .i64 x1) rfl
        have v1 := L5.cell 1 (.slice B xs1.length d) rfl
        have y0 := V5.cell 0 (.int .i64 x1) rfl
        have y1 := V5.cell 1 (.slice G xs1.length cg) rfl
        have EQ := Lib.hid (same x1 xs1 cg d hz9 RG5.out (RB.out.below B5.out))
        clear b5 L5 V5
        go_wp2_with fail
        refine (Calls.mono EQ.out) ?_
        rintro e w6 ⟨rfl, b6⟩
        have B6 := Lib.hid (B5.out.trans (b6.mono B5.out.size))
        clear b6
        go_wp2_with fail
        go_meet
        exact ⟨rfl, B6.out⟩
    case rest =>
      obtain ⟨w7, rfl⟩ : ∃ w7 : World, w7 = wc := ⟨_, rfl⟩
      obtain ⟨rfl, b7⟩ := hcut
      have B7 := Lib.hid (B1.out.trans (b7.mono B1.out.size))
      clear b7 v0 v1 B4 L4h V4 RG4 H1 RB FS B1
      have hc2 := hc.keep B7.out
      go_wp2_with fail
      refine (Calls.mono (Draw.parse5 A n c hn _ hc2)) ?_
      rintro e w21 ⟨t2, tt2, D2, k2, rfl, ht2, h42, hk2, hs2, rD2, b21⟩
      have hss2 : ∀ s ∈ tt2, s.size ≤ 9223372036854775807 := fun s hs => by have := hs2 s hs; omega
      have E2 := (henv.below B7.out).below b21
      have PI2 := Lib.hid (fun W (h : Below w21.heap.size w21 W) => CutI.parse t2 D2 k2 tt2 W (rD2.below h) (by omega) (by omega) hss2 (E2.below h))
      have PS2 := Lib.hid (fun W (h : Below w21.heap.size w21 W) => ParseS.parse t2 D2 k2 tt2 W (rD2.below h) (by omega) (by omega) hk2 hss2)
      have H2 := Lib.hid (got (Q := fun p => F (okB tt2) tt2 p.1 p.2 = t2.data.toList) (fun p h => to_fmt (ok := okB tt2) okB_names h))
      have hx2 := small (okB tt2) tt2 t2.data.toList
      have FO2 := Lib.hid (fun W (h : Below w21.heap.size w21 W) lo hi z G c zs (hG : Row lo hi W G (IntK.iv zs)) (hz : zs.length ≤ 8) => TextI.format lo hi z G D2 c k2 zs tt2 W hG (rD2.below h) (by omega) (by omega) hss2 (E2.below h).par.pow)
      have B21 := Lib.hid b21
      unfold LinI.GaveO at PI2 PS2
      clear hc2 ht2 h42 hk2 hs2 hss2 E2 rD2 b21
      generalize (parseL (okB tt2) tt2 t2.data.toList).isSome = q2 at *
      generalize ((parseL (okB tt2) tt2 t2.data.toList).getD (0, [])).1 = x2 at *
      generalize ((parseL (okB tt2) tt2 t2.data.toList).getD (0, [])).2 = xs2 at *
      go_wp2_with fail
      refine (Calls.mono (PI2.out _ (Below.refl _ _))) ?_
      rintro e w22 ⟨G2, cg2, rfl, rG2, fG2, b22⟩
      have s22 : Below w22.heap.size w22 (w22.alloc (Obj.cells #[Value.int .i64 x2, Value.slice G2 xs2.length cg2] 26)) := (Below.refl _ _).alloc (Nat.le_refl _) _
      have B22 := Lib.hid (b22.trans (s22.mono b22.size))
      have V22 := Lib.hid (Lvar.new w22 #[Value.int .i64 x2, Value.slice G2 xs2.length cg2] 26)
      have RG22 := Lib.hid (rG2.below s22)
      clear rG2 fG2 b22 s22 PI2
      go_wp2_with fail
      refine (Calls.mono (PS2.out _ B22.out)) ?_
      rintro e w23 ⟨J2, cj2, rfl, rJ2, fJ2, b23⟩
      have s23 : Below w23.heap.size w23 (w23.alloc (Obj.cells #[Value.int .i64 x2, Value.slice J2 xs2.length cj2] 26)) := (Below.refl _ _).alloc (Nat.le_refl _) _
      have B23a := B22.out.trans (b23.mono B22.out.size)
      have B23 := Lib.hid (B23a.trans (s23.mono B23a.size))
      have V23 := Lib.hid ((V22.out.below b23).below s23)
      have RG23 := Lib.hid ((RG22.out.below b23).below s23)
      clear rJ2 fJ2 b23 s23 B23a B22 V22 RG22 PS2
      go_upto_region 12 with fail
      go_cut [92] (fun s wx => s = .bool false ∧ Below w21.heap.size w21 wx)
      case first =>
        cases q2 with
        | false =>
          go_wp2_with fail
          go_meet
          exact ⟨rfl, B23.out⟩
        | true =>
          have y0 := V23.out.cell 0 (.int .i64 x2) rfl
          have y1 := V23.out.cell 1 (.slice G2 xs2.length cg2) rfl
          have fo := FO2.out _ B23.out _ _ x2 G2 cg2 xs2 RG23.out hx2
          have hf := H2.out rfl
          rw [hf, mk_list] at fo
          have FOO := Lib.hid fo
          clear fo hf
          go_wp2_with fail
          refine (Calls.mono FOO.out) ?_
          rintro e w24 ⟨rfl, b24⟩
          have B24 := Lib.hid (B23.out.trans (b24.mono B23.out.size))
          clear b24 y0 y1 FOO
          go_wp2_with fail
          go_meet
          exact ⟨rfl, B24.out⟩
      case rest =>
        obtain ⟨w8, rfl⟩ : ∃ w8 : World, w8 = wc := ⟨_, rfl⟩
        obtain ⟨rfl, b8⟩ := hcut
        have B8a := B21.out.trans (b8.mono B21.out.size)
        have B8 := Lib.hid (B7.out.trans (B8a.mono B7.out.size))
        clear b8 B8a B21 B23 V23 RG23 H2 FO2 B7
        have hc3 := hc.keep B8.out
        go_wp2_with fail
        refine (Calls.mono (Draw.cons5 A n c hn _ hc3)) ?_
        rintro e w31 ⟨t3, tt3, D3, k3, rfl, ht3, h43, hk3, hs3, rD3, b31⟩
        have hss3 : ∀ s ∈ tt3, s.size ≤ 9223372036854775807 := fun s hs => by have := hs3 s hs; omega
        have E3 := (henv.below B8.out).below b31
        have PI3 := Lib.hid (fun W (h : Below w31.heap.size w31 W) => CutI.cons t3 D3 k3 tt3 W (rD3.below h) (by omega) (by omega) hss3 (E3.below h))
        have PS3 := Lib.hid (fun W (h : Below w31.heap.size w31 W) => ParseS.cons t3 D3 k3 tt3 W (rD3.below h) (by omega) (by omega) hk3 hss3)
        have H3 := Lib.hid (got (Q := fun p => TextI.C (F (okB tt3) tt3 p.1 p.2) = t3.data.toList) (fun p h => cons_fmt (ok := okB tt3) okB_names h))
        have hx3 := small2 (okB tt3) tt3 t3.data.toList
        have FO3 := Lib.hid (fun W (h : Below w31.heap.size w31 W) lo hi z G c zs (hG : Row lo hi W G (IntK.iv zs)) (hz : zs.length ≤ 8) => TextI.cons lo hi z G D3 c k3 zs tt3 W hG (rD3.below h) (by omega) (by omega) hss3 (E3.below h).par.pow)
        have B31 := Lib.hid b31
        unfold LinI.GaveO at PI3 PS3
        clear hc3 ht3 h43 hk3 hs3 hss3 E3 rD3 b31
        generalize (CutI.parseC (okB tt3) tt3 t3.data.toList).isSome = q3 at *
        generalize ((CutI.parseC (okB tt3) tt3 t3.data.toList).getD (0, [])).1 = x3 at *
        generalize ((CutI.parseC (okB tt3) tt3 t3.data.toList).getD (0, [])).2 = xs3 at *
        go_wp2_with fail
        refine (Calls.mono (PI3.out _ (Below.refl _ _))) ?_
        rintro e w32 ⟨G3, cg3, rfl, rG3, fG3, b32⟩
        have s32 : Below w32.heap.size w32 (w32.alloc (Obj.cells #[Value.int .i64 x3, Value.slice G3 xs3.length cg3] 26)) := (Below.refl _ _).alloc (Nat.le_refl _) _
        have B32 := Lib.hid (b32.trans (s32.mono b32.size))
        have V32 := Lib.hid (Lvar.new w32 #[Value.int .i64 x3, Value.slice G3 xs3.length cg3] 26)
        have RG32 := Lib.hid (rG3.below s32)
        clear rG3 fG3 b32 s32 PI3
        go_wp2_with fail
        refine (Calls.mono (PS3.out _ B32.out)) ?_
        rintro e w33 ⟨J3, cj3, rfl, rJ3, fJ3, b33⟩
        have s33 : Below w33.heap.size w33 (w33.alloc (Obj.cells #[Value.int .i64 x3, Value.slice J3 xs3.length cj3] 26)) := (Below.refl _ _).alloc (Nat.le_refl _) _
        have B33a := B32.out.trans (b33.mono B32.out.size)
        have B33 := Lib.hid (B33a.trans (s33.mono B33a.size))
        have V33 := Lib.hid ((V32.out.below b33).below s33)
        have RG33 := Lib.hid ((RG32.out.below b33).below s33)
        clear rJ3 fJ3 b33 s33 B33a B32 V32 RG32 PS3
        have BX := Lib.hid B33.out
        have B33 := Lib.hid (B31.out.trans (B33.out.mono B31.out.size))
        cases q3 with
        | false =>
          go_wp2
          go_ret
          exact ⟨by simp, B8.out.trans (B33.out.mono B8.out.size)⟩
        | true =>
          have y0 := V33.out.cell 0 (.int .i64 x3) rfl
          have y1 := V33.out.cell 1 (.slice G3 xs3.length cg3) rfl
          have fo := FO3.out _ BX.out _ _ x3 G3 cg3 xs3 RG33.out hx3
          have hf := H3.out rfl
          rw [hf, mk_list] at fo
          have FOO := Lib.hid fo
          clear fo hf
          go_wp2_with fail
          refine (Calls.mono FOO.out) ?_
          rintro e w34 ⟨rfl, b34⟩
          have B34 := Lib.hid (B33.out.trans (b34.mono B33.out.size))
          clear b34 y0 y1 FOO
          go_wp2
          go_ret
          exact ⟨by simp, B8.out.trans (B34.out.mono B8.out.size)⟩
  · go_enter Tryz.func3, Tryz.ntmps3
    go_wp2_with fail
    refine (Draw.great A n c hn _).mono ?_
    rintro e w' ⟨rfl, rfl⟩
    go_wp2
    go_ret
    exact ⟨rfl, Below.refl _ _⟩
end LawLinText
end Go.Proofs.YtkeejkpeniinkaaGreatDoor
