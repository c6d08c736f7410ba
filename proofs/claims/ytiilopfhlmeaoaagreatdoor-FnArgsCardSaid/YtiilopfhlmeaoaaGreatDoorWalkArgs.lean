import Derived.Test.YtiilopfhlmeaoaaGreatDoorDraw9c
import Derived.Test.YtiilopfhlmeaoaaGreatDoorArgFmtI
import Derived.Test.YtiilopfhlmeaoaaGreatDoorArgEq
import Derived.Test.YtiilopfhlmeaoaaGreatDoorArgNames
import Derived.Test.YtiilopfhlmeaoaaGreatDoorLawKit2
import Derived.Test.YtiilopfhlmeaoaaGreatDoorArgParseAS
import Derived.Deep.DeepCutAuto
import Derived.OwnWalk
/-
  The walk of the law FnArgs.
-/
namespace Go.Proofs.YtiilopfhlmeaoaaGreatDoor
open Go.RowKit
namespace LawArgs

open RowK Mem ArgM TextM CutI
theorem fmtA_ne {a : Ag} (h : argV a = true) : fmtA a ≠ [] := by
  obtain ⟨p, hs, b⟩ := a
  cases p with
  | false =>
    obtain ⟨k, rfl, _, _⟩ := argV_int.1 h
    exact fmtS_ne k
  | true =>
    obtain ⟨_, _, a3⟩ := argV_list.1 h
    intro e
    have e2 : headsT hs ++ baseT b = [] := e
    have h3 := base_shape a3
    rw [(List.append_eq_nil_iff.1 e2).2] at h3
    revert h3
    decide
theorem FA_some {a x : Ag} (h : parseA (FA a) = some x) : x = a := by
  obtain ⟨h1, _, h3⟩ := parseA_is h
  by_cases hv : argV a = true
  · rw [FA, if_pos hv] at h3
    exact fmtA_inj h1 hv h3
  · rw [FA, if_neg hv] at h3
    exact absurd h3 (fmtA_ne h1)
theorem got1 {a : Ag} : (parseA (FA a)).isSome = true → (parseA (FA a)).getD (false, [], ByteArray.empty) = a := by
  cases h : parseA (FA a) with
  | none => intro h; cases h
  | some x => intro _; exact FA_some h
theorem got2 {t : List UInt8} : (parseA t).isSome = true → FA ((parseA t).getD (false, [], ByteArray.empty)) = t := by
  cases h : parseA t with
  | none => intro h; cases h
  | some x =>
    intro _
    obtain ⟨h1, _, h3⟩ := parseA_is h
    rw [Option.getD_some, FA, if_pos h1]
    exact h3
theorem small (t : List UInt8) : ((parseA t).getD (false, [], ByteArray.empty)).2.1.length + szs ssl ((parseA t).getD (false, [], ByteArray.empty)).2.1 ≤ 1000 ∧ (∀ x ∈ ((parseA t).getD (false, [], ByteArray.empty)).2.1, ∀ t ∈ x.2, t.2.size ≤ 9223372036854775807) ∧ ((parseA t).getD (false, [], ByteArray.empty)).2.2.size ≤ 9223372036854775807 := by
  cases h : parseA t with
  | none =>
    simp only [Option.getD_none]
    exact ⟨by decide, fun x hx => absurd hx List.not_mem_nil, by decide⟩
  | some a =>
    obtain ⟨p, hs, b⟩ := a
    obtain ⟨h1, _, _⟩ := parseA_is h
    simp only [Option.getD_some]
    have hh : (∀ x ∈ hs, sumV x = true) ∧ hs.length ≤ 3 ∧ b.size ≤ 8 := by
      cases p with
      | true =>
        obtain ⟨a1, a2, a3⟩ := argV_list.1 h1
        refine ⟨a1, a2, ?_⟩
        simp only [baseV, Bool.or_eq_true, decide_eq_true_eq] at a3
        rcases a3 with h | h
        · omega
        · exact (valid_shape (list_valid h)).2
      | false =>
        obtain ⟨k, rfl, hk, hb⟩ := argV_int.1 h1
        exact ⟨fun x hx => by rw [List.mem_singleton.1 hx]; exact hk, by simp, by omega⟩
    obtain ⟨a1, a2, a3⟩ := hh
    have gen : ∀ ys : List Sm, (∀ x ∈ ys, sumV x = true) → szs ssl ys ≤ 4 * ys.length := by
      intro ys
      induction ys with
      | nil => intro _; exact Nat.le_refl _
      | cons y ys ih =>
        intro hx
        have h4 := ih (fun t ht => hx t (List.mem_cons_of_mem _ ht))
        obtain ⟨_, h5, _, _⟩ := sumV_iff.1 (hx y List.mem_cons_self)
        rw [szs_cons, List.length_cons]
        unfold ssl at h4 ⊢
        omega
    have h8 := gen hs a1
    refine ⟨by omega, fun x hx t ht => ?_, by omega⟩
    obtain ⟨_, _, h6, _⟩ := sumV_iff.1 (a1 x hx)
    have := (valid_shape (intName_valid (termV_iff.1 (h6 t ht)).2.2)).2
    omega
theorem nlen (hs : List Sm) (b : ByteArray) (h : hs.length + szs ssl hs ≤ 100) : (SortM.srtB (ArgI.nmA hs b)).length ≤ 1000 := by
  have h1 := SortM.srtB_length (ArgI.nmA hs b)
  have h2 : (ArgI.nmA hs b).length ≤ szs ssl hs + 1 := by
    unfold ArgI.nmA
    rw [List.length_append, ArgI.nmS_len]
    have h3 : (if b.size = 0 then ([] : List ByteArray) else [b]).length ≤ 1 := by split <;> simp
    omega
  omega
theorem nasc (hs : List Sm) (b : ByteArray) : SortM.Asc ((SortM.srtB (ArgI.nmA hs b)).map fun s => s.data.toList) := by
  rw [SortM.srtB_data]
  exact SortM.srt_asc _
theorem eqSelf (p : Bool) (hs : List Sm) (b : ByteArray) : ArgI.argE p p hs hs b b = true := ArgI.argE_iff.2 rfl

set_option maxHeartbeats 40000000 in
set_option maxRecDepth 100000 in
theorem walk (A : Option Addr) (n c : Nat) (w0 : World) (hc : Draw.Code w0 A n) (henv : CutI.Env w0) :
    Calls Tryz.prog 3 #[.slice A n c] w0 fun e w' => e = .returned (.bool true) ∧ Below w0.heap.size w0 w' := by
  by_cases hn : n ≤ 1048576
  · go_enter Tryz.func3, Tryz.ntmps3
    go_wp2_with fail
    refine (Draw.small A n c hn _).mono ?_
    rintro e w' ⟨rfl, rfl⟩
    go_wp2_with fail
    refine (Calls.mono (Draw.drawFormatArg A n c hn _ hc)) ?_
    rintro e w1 ⟨p, B, d, b, hs, rfl, hI, hA, b1⟩
    have hz := Draw.szs_small hs hI.2.1
    have hi1 := hI.1
    have hsl : hs.length + szs ssl hs ≤ 100 := by omega
    have hss : ∀ x ∈ hs, ∀ t ∈ x.2, t.2.size ≤ 9223372036854775807 := fun x hx t ht => by have := (hI.2.1 x hx).2 t ht; omega
    have hbs : b.size ≤ 9223372036854775807 := by have := hI.2.2; omega
    have s1 : Below w1.heap.size w1 (w1.alloc (Obj.cells #[Value.bool p, Value.slice B hs.length d, Value.string b] 26)) := (Below.refl _ _).alloc (Nat.le_refl _) _
    have Ll := Lib.hid (Lvar.new w1 #[Value.bool p, Value.slice B hs.length d, Value.string b] 26)
    have FI := Lib.hid (fun W (h : Below w1.heap.size w1 W) => ArgI.formatArg p b B d hs W (hA.below h) (by omega) hss hbs ((henv.below b1).below h).par.pow)
    have FP := Lib.hid (fun W (h : Below w1.heap.size w1 W) => ArgP.formatArg p b B d hs W (hA.below h) (by omega) hss hbs)
    have VI := Lib.hid (fun W (h : Below w1.heap.size w1 W) => ArgI.validArg p B d hs b W (hA.below h) (by omega) hss hbs)
    have VP := Lib.hid (fun W (h : Below w1.heap.size w1 W) => ArgP.validArg p B d hs b W (hA.below h) (by omega) hss hbs)
    have NI := Lib.hid (fun W (h : Below w1.heap.size w1 W) => ArgI.names p b B d hs W (hA.below h) (by omega))
    have NP := Lib.hid (fun W (h : Below w1.heap.size w1 W) => ArgI.namesS p b B d hs W (hA.below h) (by omega))
    have EQ := Lib.hid (fun W (h : Below w1.heap.size w1 W) G cg (hG : ArgS Mem.sum W G hs.length cg hs) => ArgI.equalArg p p b b G B cg d hs hs W hG (hA.below h) (by omega) (by omega))
    have HNL := Lib.hid (show (SortM.srtB (ArgI.nmA hs b)).length ≤ 1000 from nlen hs b hsl)
    have hFl := Draw.FA_len p hs b
    have hT : (⟨(FA (p, hs, b)).toArray⟩ : ByteArray).data.toList = FA (p, hs, b) := by simp
    have PI := Lib.hid (fun W (h : Below w1.heap.size w1 W) => ArgI.parseArg ⟨(FA (p, hs, b)).toArray⟩ W (by rw [TextI.size_mk]; omega) ((henv.below b1).below h))
    have PS := Lib.hid (fun W => ArgP.parseArg ⟨(FA (p, hs, b)).toArray⟩ W (by rw [TextI.size_mk]; omega))
    rw [hT] at PI PS
    have H1 := Lib.hid (got1 (a := (p, hs, b)))
    have B1 := Lib.hid b1
    have S1 := Lib.hid s1
    unfold ArgI.GaveArgO at PI PS
    clear hT hI hz hss hbs hA b1 s1 hFl
    generalize (parseA (FA (p, hs, b))).isSome = q1 at *
    generalize (parseA (FA (p, hs, b))).getD (false, [], ByteArray.empty) = X1 at *
    generalize FA (p, hs, b) = T at *
    generalize argV (p, hs, b) = sv at *
    obtain ⟨p1, hs1, c1⟩ := X1
    go_wp2_with fail
    refine (Calls.mono (FI.out _ S1.out)) ?_
    rintro e w2 ⟨rfl, b2⟩
    have B2 := Lib.hid (S1.out.trans (b2.mono S1.out.size))
    have L2 := Lib.hid (Ll.out.below b2)
    clear b2 FI S1 Ll
    go_wp2_with fail
    refine (Calls.mono (PI.out _ B2.out)) ?_
    rintro e w3 ⟨G, cg, rfl, oG, b3⟩
    have s3 : Below w3.heap.size w3 (w3.alloc (Obj.cells #[Value.bool p1, Value.slice G hs1.length cg, Value.string c1] 26)) := (Below.refl _ _).alloc (Nat.le_refl _) _
    have B3a := B2.out.trans (b3.mono B2.out.size)
    have B3 := Lib.hid (B3a.trans (s3.mono B3a.size))
    have L3 := Lib.hid ((L2.out.below b3).below s3)
    have V3 := Lib.hid (Lvar.new w3 #[Value.bool p1, Value.slice G hs1.length cg, Value.string c1] 26)
    have O3 := Lib.hid (oG.arg.below s3)
    clear oG b3 s3 B3a B2 L2 PI
    go_wp2_with fail
    refine (Calls.mono (PS.out _)) ?_
    rintro e w4 ⟨H, ch, rfl, oH, b4⟩
    have s4 : Below w4.heap.size w4 (w4.alloc (Obj.cells #[Value.bool p1, Value.slice H hs1.length ch, Value.string c1] 26)) := (Below.refl _ _).alloc (Nat.le_refl _) _
    have B4a := B3.out.trans (b4.mono B3.out.size)
    have B4 := Lib.hid (B4a.trans (s4.mono B4a.size))
    have L4 := (L3.out.below b4).below s4
    have V4 := (V3.out.below b4).below s4
    have O4 := Lib.hid ((O3.out.below b4).below s4)
    clear oH b4 s4 B4a B3 L3 V3 O3 PS
    go_upto_region 7 with fail
    generalize w4.alloc (Obj.cells #[Value.bool p1, Value.slice H hs1.length ch, Value.string c1] 26) = w5 at *
    have LL := Lib.hid L4
    have VV := Lib.hid V4
    have v0 := L4.cell 0 (.bool p) rfl
    have v1 := L4.cell 1 (.slice B hs.length d) rfl
    have v2 := L4.cell 2 (.string b) rfl
    have B5 := Lib.hid (B4.out.trans (Below.refl _ _).drew)
    have B50 := Lib.hid B4.out
    clear B4 L4 V4
    go_cut [55] from 31 to 54 (fun s wx => s = .bool false ∧ Below w5.heap.size w5 wx)
    case first =>
      have K5 := Lib.hid (Below.refl w5.heap.size w5).drew
      cases q1 with
      | false =>
        first
        | go_region_law (first
          | (go_simp; first
            | (go_at_call 9; (with_reducible refine (Calls.mono (FP.out _ B5.out)) ?_); rintro e u6 ⟨rfl, b6⟩; (have B6 := Lib.hid (B5.out.trans (b6.mono B5.out.size))); (have K6 := Lib.hid (K5.out.trans (b6.mono K5.out.size))); (have L6 := Lib.hid (LL.out.below K6.out)); (have v60 := L6.out.cell 0 (.bool p) rfl); (have v61 := L6.out.cell 1 (.slice B hs.length d) rfl); (have v62 := L6.out.cell 2 (.string b) rfl); clear b6)
            | (go_at_call 11; (with_reducible refine (Calls.mono (VI.out _ B6.out)) ?_); rintro e u7 ⟨rfl, b7⟩; (have B7 := Lib.hid (B6.out.trans (b7.mono B6.out.size))); (have K7 := Lib.hid (K6.out.trans (b7.mono K6.out.size))); (have L7 := Lib.hid (LL.out.below K7.out)); (have v70 := L7.out.cell 0 (.bool p) rfl); (have v71 := L7.out.cell 1 (.slice B hs.length d) rfl); (have v72 := L7.out.cell 2 (.string b) rfl); clear b7)
            | (go_at_call 12; (with_reducible refine (Calls.mono (VP.out _ B7.out)) ?_); rintro e u8 ⟨rfl, b8⟩; (have K8 := Lib.hid (K7.out.trans (b8.mono K7.out.size))); clear b8)))
        | fail
        all_goals
          go_wp2_with fail
          go_meet
          exact ⟨by simp, K8.out⟩
      | true =>
        have hfx := H1.out rfl
        injection hfx with hf1 hf2
        injection hf2 with hf2 hf3
        subst hf1; subst hf2; subst hf3
        go_region_law (first
          | (go_simp; first
            | (go_at_call 9; (with_reducible refine (Calls.mono (FP.out _ B5.out)) ?_); rintro e u6 ⟨rfl, b6⟩; (have B6 := Lib.hid (B5.out.trans (b6.mono B5.out.size))); (have K6 := Lib.hid (K5.out.trans (b6.mono K5.out.size))); (have L6 := Lib.hid (LL.out.below K6.out)); (have v60 := L6.out.cell 0 (.bool p1) rfl); (have v61 := L6.out.cell 1 (.slice B hs1.length d) rfl); (have v62 := L6.out.cell 2 (.string c1) rfl); (have V6 := Lib.hid (VV.out.below K6.out)); (have y60 := V6.out.cell 0 (.bool p1) rfl); (have y61 := V6.out.cell 1 (.slice G hs1.length cg) rfl); (have y62 := V6.out.cell 2 (.string c1) rfl); clear b6)
            | (go_at_call 10; (with_reducible refine (Calls.mono (EQ.out _ B6.out G cg (O4.out.below K6.out))) ?_); rintro e u9 ⟨rfl, b9⟩; (have B9 := Lib.hid (B6.out.trans (b9.mono B6.out.size))); (have K9 := Lib.hid (K6.out.trans (b9.mono K6.out.size))); (have L9 := Lib.hid (LL.out.below K9.out)); (have v90 := L9.out.cell 0 (.bool p1) rfl); (have v91 := L9.out.cell 1 (.slice B hs1.length d) rfl); (have v92 := L9.out.cell 2 (.string c1) rfl); (have ee := eqSelf p1 hs1 c1); clear b9)
            | (go_at_call 11; (with_reducible refine (Calls.mono (VI.out _ B9.out)) ?_); rintro e u7 ⟨rfl, b7⟩; (have B7 := Lib.hid (B9.out.trans (b7.mono B9.out.size))); (have K7 := Lib.hid (K9.out.trans (b7.mono K9.out.size))); (have L7 := Lib.hid (LL.out.below K7.out)); (have v70 := L7.out.cell 0 (.bool p1) rfl); (have v71 := L7.out.cell 1 (.slice B hs1.length d) rfl); (have v72 := L7.out.cell 2 (.string c1) rfl); clear b7)
            | (go_at_call 12; (with_reducible refine (Calls.mono (VP.out _ B7.out)) ?_); rintro e u8 ⟨rfl, b8⟩; (have K8 := Lib.hid (K7.out.trans (b8.mono K7.out.size))); clear b8)))
        all_goals
          go_wp2_with fail
          go_meet
          exact ⟨by simp, K8.out⟩
    case rest =>
      obtain ⟨w7, rfl⟩ : ∃ w7 : World, w7 = wc := ⟨_, rfl⟩
      obtain ⟨rfl, b7⟩ := hcut
      have L7 := Lib.hid (LL.out.below b7)
      have B7w := Lib.hid (B50.out.trans (b7.mono B50.out.size))
      have B7 := Lib.hid (B1.out.trans (B7w.out.mono B1.out.size))
      clear b7 v0 v1 v2 B5 B50 LL VV O4 H1 FP VI VP EQ B1
      have hc2 := hc.keep B7.out
      go_wp2_with fail
      refine (Calls.mono (Draw.drawParseArg A n c hn _ hc2)) ?_
      rintro e w21 ⟨t2, ht2, rfl, b21⟩
      have E2 := Lib.hid ((henv.below B7.out).below b21)
      have PI2 := Lib.hid (fun W (h : Below w21.heap.size w21 W) => ArgI.parseArg t2 W (by omega) (E2.out.below h))
      have PS2 := Lib.hid (fun W => ArgP.parseArg t2 W (by omega))
      have H2 := Lib.hid (got2 (t := t2.data.toList))
      have hx2 := small t2.data.toList
      have B21 := Lib.hid (B7.out.trans (b21.mono B7.out.size))
      have B21w := Lib.hid (B7w.out.trans (b21.mono B7w.out.size))
      have L21 := Lib.hid (L7.out.below b21)
      unfold ArgI.GaveArgO at PI2 PS2
      clear hc2 ht2 b21 B7 B7w L7
      generalize (parseA t2.data.toList).isSome = q2 at *
      generalize (parseA t2.data.toList).getD (false, [], ByteArray.empty) = X2 at *
      obtain ⟨p2, hs2, c2⟩ := X2
      simp only at hx2 H2
      go_wp2_with fail
      refine (Calls.mono (PI2.out _ (Below.refl _ _))) ?_
      rintro e w22 ⟨G2, cg2, rfl, oG2, b22⟩
      have s22 : Below w22.heap.size w22 (w22.alloc (Obj.cells #[Value.bool p2, Value.slice G2 hs2.length cg2, Value.string c2] 26)) := (Below.refl _ _).alloc (Nat.le_refl _) _
      have B22 := Lib.hid (b22.trans (s22.mono b22.size))
      have V22 := Lib.hid (Lvar.new w22 #[Value.bool p2, Value.slice G2 hs2.length cg2, Value.string c2] 26)
      have O22 := Lib.hid (oG2.arg.below s22)
      clear oG2 b22 s22 PI2
      go_wp2_with fail
      refine (Calls.mono (PS2.out _)) ?_
      rintro e w23 ⟨J2, cj2, rfl, oJ2, b23⟩
      have s23 : Below w23.heap.size w23 (w23.alloc (Obj.cells #[Value.bool p2, Value.slice J2 hs2.length cj2, Value.string c2] 26)) := (Below.refl _ _).alloc (Nat.le_refl _) _
      have B23a := B22.out.trans (b23.mono B22.out.size)
      have B23 := Lib.hid (B23a.trans (s23.mono B23a.size))
      have V23 := Lib.hid ((V22.out.below b23).below s23)
      have O23 := Lib.hid ((O22.out.below b23).below s23)
      clear oJ2 b23 s23 B23a B22 V22 O22 PS2
      have L23 := Lib.hid (L21.out.below B23.out)
      have l0 := L23.out.cell 0 (.bool p) rfl
      have l1 := L23.out.cell 1 (.slice B hs.length d) rfl
      have l2 := L23.out.cell 2 (.string b) rfl
      go_wp2_with fail
      refine (Calls.mono (NI.out _ (B21w.out.trans (B23.out.mono B21w.out.size)))) ?_
      rintro e w24 ⟨R, cr, rfl, rR, fR, b24, _, _⟩
      have B24 := Lib.hid (B23.out.trans (b24.mono B23.out.size))
      have L24 := Lib.hid (L23.out.below b24)
      have V24 := Lib.hid (V23.out.below b24)
      have O24 := Lib.hid (O23.out.below b24)
      have R24 := Lib.hid rR
      have RI := Lib.hid (fun W (h : Below w24.heap.size w24 W) => NameS.rising R cr _ W (rR.below h) (by have := HNL.out; omega) (nasc hs b))
      have ST := Lib.hid (fun W (h : Below w24.heap.size w24 W) Q cq (hQ : StrK.SRow W Q (SortM.srtB (ArgI.nmA hs b))) => NameS.same_texts R Q cr cq _ W (rR.below h) hQ (by have := HNL.out; omega))
      generalize SortM.srtB (ArgI.nmA hs b) = NS at *
      clear fR b24 B23 L23 V23 O23 l0 l1 l2 rR NI
      have BX := Lib.hid (B21.out.trans (B24.out.mono B21.out.size))
      have BY := Lib.hid (B21w.out.trans (B24.out.mono B21w.out.size))
      cases q2 with
      | false =>
        go_wp2_with fail
        refine (Calls.mono (RI.out _ (Below.refl _ _))) ?_
        rintro e w25 ⟨rfl, b25⟩
        have B25 := Lib.hid b25
        have L25 := L24.out.below b25
        have l0 := L25.cell 0 (.bool p) rfl
        have l1 := L25.cell 1 (.slice B hs.length d) rfl
        have l2 := L25.cell 2 (.string b) rfl
        clear b25
        go_wp2_with fail
        refine (Calls.mono (NP.out _ (BY.out.trans (B25.out.mono BY.out.size)))) ?_
        rintro e w26 ⟨Q, cq, rfl, rQ, fQ, b26, _, _⟩
        have B26 := Lib.hid (B25.out.trans (b26.mono B25.out.size))
        go_wp2_with fail
        refine (Calls.mono (ST.out _ B26.out Q cq rQ)) ?_
        rintro e w27 ⟨rfl, b27⟩
        have B27 := Lib.hid (BX.out.trans ((B26.out.trans (b27.mono B26.out.size)).mono BX.out.size))
        clear b26 b27 rQ fQ
        go_wp2
        go_ret
        exact ⟨by simp, B27.out⟩
      | true =>
        have hfx := H2.out rfl
        have y0 := V24.out.cell 0 (.bool p2) rfl
        have y1 := V24.out.cell 1 (.slice G2 hs2.length cg2) rfl
        have y2 := V24.out.cell 2 (.string c2) rfl
        have fo := ArgI.formatArg p2 c2 G2 cg2 hs2 _ O24.out (by omega) hx2.2.1 hx2.2.2 (E2.out.below B24.out).par.pow
        rw [hfx, mk_list] at fo
        have FOO := Lib.hid fo
        clear fo
        go_wp2_with fail
        refine (Calls.mono FOO.out) ?_
        rintro e w25 ⟨rfl, b25⟩
        have B25 := Lib.hid b25
        clear b25 y0 y1 y2
        go_wp2_with fail
        refine (Calls.mono (RI.out _ B25.out)) ?_
        rintro e w26 ⟨rfl, b26⟩
        have B26 := Lib.hid (B25.out.trans (b26.mono B25.out.size))
        have L26 := L24.out.below B26.out
        have l0 := L26.cell 0 (.bool p) rfl
        have l1 := L26.cell 1 (.slice B hs.length d) rfl
        have l2 := L26.cell 2 (.string b) rfl
        clear b26
        go_wp2_with fail
        refine (Calls.mono (NP.out _ (BY.out.trans (B26.out.mono BY.out.size)))) ?_
        rintro e w27 ⟨Q, cq, rfl, rQ, fQ, b27, _, _⟩
        have B27 := Lib.hid (B26.out.trans (b27.mono B26.out.size))
        go_wp2_with fail
        refine (Calls.mono (ST.out _ B27.out Q cq rQ)) ?_
        rintro e w28 ⟨rfl, b28⟩
        have B28 := Lib.hid (BX.out.trans ((B27.out.trans (b28.mono B27.out.size)).mono BX.out.size))
        clear b27 b28 rQ fQ
        go_wp2
        go_ret
        exact ⟨by simp, B28.out⟩
  · go_enter Tryz.func3, Tryz.ntmps3
    go_wp2_with fail
    refine (Draw.great A n c hn _).mono ?_
    rintro e w' ⟨rfl, rfl⟩
    go_wp2
    go_ret
    exact ⟨rfl, Below.refl _ _⟩
end LawArgs
end Go.Proofs.YtiilopfhlmeaoaaGreatDoor
