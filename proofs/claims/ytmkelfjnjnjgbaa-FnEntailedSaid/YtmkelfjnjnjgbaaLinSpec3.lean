import Derived.Test.YtmkelfjnjnjgbaaLinSpec
import Derived.Test.YtmkelfjnjnjgbaaLinImpl3
/-
  The model's linear expressions: scaled sums.
-/
namespace Go.Proofs.Ytmkelfjnjnjgbaa
open Go.RowKit
namespace LinS
open RowK LinM ArithM

theorem row_next (P : List Int) (n j : Nat) (hn : P.length = n) (h : j < n) : (P.take j ++ List.replicate (n - j) 0).set j (P[j]'(by omega)) = P.take (j + 1) ++ List.replicate (n - (j + 1)) 0 := by
  rw [List.set_append_right _ _ (by simp; omega), List.length_take, Nat.min_eq_left (by omega), Nat.sub_self, show n - j = (n - (j + 1)) + 1 by omega, List.replicate_succ, List.set_cons_zero, List.take_add_one, List.getElem?_eq_getElem (show j < P.length by omega), List.append_assoc]
  rfl

set_option maxHeartbeats 2000000 in
set_option maxRecDepth 100000 in
theorem addScaledC (lo hi lo' hi' : Nat) (z k u : Int) (A B : Option Addr) (c d : Nat) (zs us : List Int) (w : World) (hA : Row lo hi w A (IntK.iv zs)) (hB : Row lo' hi' w B (IntK.iv us)) (hl : zs.length ≤ 1000000000) (hl2 : us.length ≤ 1000000000) :
    Calls Try.prog 45 #[.agg #[.int .i64 z, .slice A zs.length c], .int .i64 k, .agg #[.int .i64 u, .slice B us.length d]] w (LinI.GaveOC w (addS z zs k u us)) := by
  have V1 := Lib.hid (fun W (h : Below w.heap.size w W) => valid lo hi z A c zs zs.length W (hA.below h) hl)
  have V2 := Lib.hid (fun W (h : Below w.heap.size w W) => valid lo' hi' u B d us zs.length W (hB.below h) hl2)
  have IC := Lib.hid (fun W => ArithS.in3 k W)
  have SU := Lib.hid (fun x y W => sum x k y W)
  have bb : Below w.heap.size w (((w.alloc (Obj.cells #[Value.int IntKind.i64 z, Value.slice A zs.length c] 29)).alloc (Obj.cells #[Value.int IntKind.i64 u, Value.slice B us.length d] 29)).alloc (Obj.cells #[Value.int IntKind.i64 0, Value.slice none 0 0] 29)) := (((Below.refl _ _).alloc (Nat.le_refl _) _).alloc (by simp) _).alloc (by simp; omega) _
  have BB := Lib.hid bb
  have L1 := Lib.hid ((((Lvar.new w #[Value.int IntKind.i64 z, Value.slice A zs.length c] 29).alloc (Obj.cells #[Value.int IntKind.i64 u, Value.slice B us.length d] 29)).alloc (Obj.cells #[Value.int IntKind.i64 0, Value.slice none 0 0] 29)))
  have L2 := Lib.hid (((Lvar.new (w.alloc (Obj.cells #[Value.int IntKind.i64 z, Value.slice A zs.length c] 29)) #[Value.int IntKind.i64 u, Value.slice B us.length d] 29).alloc (Obj.cells #[Value.int IntKind.i64 0, Value.slice none 0 0] 29)))
  have L3 := Lib.hid ((Lvar.new ((w.alloc (Obj.cells #[Value.int IntKind.i64 z, Value.slice A zs.length c] 29)).alloc (Obj.cells #[Value.int IntKind.i64 u, Value.slice B us.length d] 29)) #[Value.int IntKind.i64 0, Value.slice none 0 0] 29))
  simp only [World.size_alloc] at L2 L3
  clear bb
  have hRv := Lib.hid (fun (h : ¬ (vldB z zs zs.length = true ∧ vldB u us zs.length = true)) => (show addS z zs k u us = none from if_neg h))
  have hRk := Lib.hid (fun (h : inC k = false) => (show addS z zs k u us = none from by
    unfold addS
    split
    · have : addP z k u = none := by simp [addP, mulL, h]
      rw [this]; rfl
    · rfl))
  have hR := Lib.hid (fun (h : vldB z zs zs.length = true ∧ vldB u us zs.length = true) => (show addS z zs k u us = (addP z k u).bind fun x => if okS k zs us = true then some (x, pureS k zs us) else none from by
    rw [addS, if_pos h, addPs_eq]
    cases addP z k u with
    | none => rfl
    | some a => simp only [Option.bind_some]; split <;> rfl))
  generalize addS z zs k u us = R at *
  by_cases h1 : vldB z zs zs.length = true
  · rw [h1] at V1
    by_cases h2 : vldB u us zs.length = true
    · rw [h2] at V2
      by_cases h3 : inC k = true
      · rw [h3] at IC
        have hlen : Hid (us.length = zs.length) := Lib.hid (by have := (vldB_iff.1 h2).2.1; omega)
        have hR := Lib.hid (hR.out ⟨h1, h2⟩)
        have hn8 := (vldB_iff.1 h1).1
        have hPl := Lib.hid (pureS_len k zs us hlen.out)
        have hPk := Lib.hid (fun j a b c => (pureS_get k zs us j a b c).symm)
        have hF0 := Lib.hid (show okS k (zs.take 0) (us.take 0) = true from rfl)
        have hFn := Lib.hid (show okS k (zs.take zs.length) (us.take zs.length) = okS k zs us by rw [List.take_length, ← hlen.out, List.take_length])
        have hF := Lib.hid (okS_take k zs us)
        obtain ⟨F, hFF⟩ : ∃ F : Nat → Bool, ∀ j, okS k (zs.take j) (us.take j) = F j := ⟨_, fun _ => rfl⟩
        rw [hFF] at hF0 hFn
        simp only [hFF] at hF
        rw [← hFn.out] at hR
        clear hRv hRk h1 h2 h3 hFn hFF
        generalize pureS k zs us = P at *
        have hmk := IntK.run_mk zs.length (by omega)
        have hro := Lib.hid (fun W => LinI.made W zs.length (by omega))
        go_enter Try.func45, Try.ntmps45
        go_wp2_with fail
        refine (V1.out _ BB.out).mono ?_
        rintro e w1 ⟨rfl, b1⟩
        have M1 := Lib.hid (L1.out.below b1)
        have M2 := Lib.hid (L2.out.below b1)
        have M3 := Lib.hid (L3.out.below b1)
        have B1 := Lib.hid (BB.out.trans (b1.mono BB.out.size))
        have hs1 := b1.size
        simp only [World.size_alloc] at hs1
        clear b1 L1 L2 L3 BB V1
        have l2 := M2.out.cell 0 _ rfl
        have l2' := M2.out.cell 1 _ rfl
        go_wp2_with fail
        refine (V2.out _ B1.out).mono ?_
        rintro e w2 ⟨rfl, b2⟩
        have B2 := Lib.hid (B1.out.trans (b2.mono B1.out.size))
        have N1 := Lib.hid (M1.out.below b2)
        have N2 := Lib.hid (M2.out.below b2)
        have N3 := Lib.hid (M3.out.below b2)
        have hs2 := b2.size
        clear b2 M1 M2 M3 V2 l2 l2'
        go_wp2_with fail
        refine (IC.out _).mono ?_
        rintro e w3 ⟨rfl, rfl⟩
        go_wp2
        have RO := Lib.hid (hro.out w2)
        have BM := Lib.hid ((Below.refl w2.heap.size w2).alloc (Nat.le_refl _) (Obj.cells (madeCells #[Value.int IntKind.i64 0] zs.length) 3))
        have BN := Lib.hid ((Below.refl (w2.heap.size + 1) (w2.alloc (Obj.cells (madeCells #[Value.int IntKind.i64 0] zs.length) 3))).alloc (by simp) (Obj.cells #[Value.int IntKind.i64 0, Value.slice (some ⟨w2.heap.size, 0, none⟩) zs.length zs.length] 29))
        have N4 := Lib.hid (Lvar.new (w2.alloc (Obj.cells (madeCells #[Value.int IntKind.i64 0] zs.length) 3)) #[Value.int IntKind.i64 0, Value.slice (some ⟨w2.heap.size, 0, none⟩) zs.length zs.length] 29)
        simp only [World.size_alloc] at RO N4
        have hs5 : w.heap.size + 1 + 1 + 1 ≤ w2.heap.size := by omega
        go_loopw [10, 11] (fun al i wr => ∃ j : Nat, j ≤ zs.length ∧ i = .int .i64 j ∧ al = .bool (F j) ∧ Row w2.heap.size (w2.heap.size + 1) wr (some ⟨w2.heap.size, 0, none⟩) (IntK.iv (P.take j ++ List.replicate (zs.length - j) 0)) ∧ Free wr (some ⟨w2.heap.size, 0, none⟩) zs.length ∧ Mod w2.heap.size (w2.heap.size + 1) ((w2.alloc (Obj.cells (madeCells #[Value.int IntKind.i64 0] zs.length) 3)).alloc (Obj.cells #[Value.int IntKind.i64 0, Value.slice (some ⟨w2.heap.size, 0, none⟩) zs.length zs.length] 29)) wr) (fun _ i _ => zs.length - (intOf i).toNat)
        case atStart => exact ⟨0, Nat.zero_le _, rfl, by rw [hF0.out], by simpa using RO.out.1.below (by simpa using BN.out), RO.out.2.below RO.out.1 (by simp [IntK.iv]) (by simpa using BN.out), Mod.refl _ _ _⟩
        case round =>
          obtain ⟨j, hj, rfl, rfl, h2, h3, h4⟩ := hrel
          have P2 := Lib.hid h2
          have P3 := Lib.hid h3
          have P4 := Lib.hid h4
          have hsr := h4.size
          simp only [World.size_alloc] at hsr
          have Q1 := Lib.hid (((N1.out.alloc _).alloc _).keep h4 (by omega))
          have Q2 := Lib.hid (((N2.out.alloc _).alloc _).keep h4 (by omega))
          have Q3 := Lib.hid (((N3.out.alloc _).alloc _).keep h4 (by omega))
          have Q4 := Lib.hid (N4.out.keep h4 (by omega))
          have BW := Lib.hid (below_mod ((B2.out.trans (BM.out.mono (by omega))).trans (BN.out.mono (by omega))) h4 (by omega) (by simp; omega))
          clear h2 h3 h4 N1 N2 N3 N4 BM BN RO hF0 hmk
          by_cases hlt : j < zs.length
          · have hlt' : j < us.length := by rw [hlen.out]; exact hlt
            have hltP : j < P.length := by rw [hPl.out]; exact hlt
            obtain ⟨ba, oa, ea, hba, ha⟩ := IntK.at_below hA BW.out hlt
            obtain ⟨bb, ob, eb, hbb, hb⟩ := IntK.at_below hB BW.out hlt'
            obtain ⟨bc, oc, ec, hbc, hc⟩ := IntK.at_ P2.out (k := j) (by simp; omega)
            injection ec with ec; injection ec with ec1 ec2; subst ec1; subst ec2
            have hfr := P3.out (by omega) _ _ rfl j hlt
            rw [show (P.take j ++ List.replicate (zs.length - j) 0)[j]'(by simp; omega) = 0 by rw [List.getElem_append_right (by simp; omega)]; simp] at hc
            simp only [Nat.zero_add] at hc hfr
            subst ea; subst eb
            have q1 := Q1.out.cell 1 (.slice (some ⟨ba, oa, none⟩) zs.length c) rfl
            have q2 := Q2.out.cell 1 (.slice (some ⟨bb, ob, none⟩) us.length d) rfl
            have q4 := Q4.out.cell 1 (.slice (some ⟨w2.heap.size, 0, none⟩) zs.length zs.length) rfl
            have hk0 : (0 : Int) ≤ (j : Int) := by omega
            have hk1 : (j : Int) < (zs.length : Int) := by omega
            have hk2 : (j : Int) < (us.length : Int) := by omega
            have hst := Lib.hid (hF.out j hlt hlt')
            have hv := Lib.hid (hPk.out j hlt hlt' hltP)
            have S2 := Lib.hid (LinI.store_iv P2.out (k := j) (by simp; omega) P[j])
            rw [row_next P zs.length j hPl.out hlt] at S2
            have S3 := Lib.hid (P3.out.set ⟨w2.heap.size, 0 + j, none⟩ (.int .i64 P[j]))
            have S4 := Lib.hid (P4.out.trans (Mod.set wr (p := ⟨w2.heap.size, 0 + j, none⟩) (Nat.le_refl _) (Nat.lt_succ_self _) (.int .i64 P[j])))
            simp only [Nat.zero_add] at S2 S3 S4
            have SUj := Lib.hid (fun W => SU.out zs[j] us[j] W)
            generalize P[j] = p at *
            generalize zs[j] = x1 at *
            generalize us[j] = y1 at *
            have hap : Hid (addP x1 k y1 = addP x1 k y1) := Lib.hid rfl
            rw [hv.out] at SUj
            generalize (addP x1 k y1).isSome = ok at *
            clear SU hF hPk hR hap
            generalize F j = fj at *
            cases fj
            all_goals
              go_wp2_with fail
              go_quiet ((go_at_call 83; exact Calls.quiet_of_same ((SUj.out _).mono fun e w' h => ⟨h.1, h.2.symm⟩)))
              go_wp2
              go_roundw
              case rel => exact ⟨j + 1, by omega, by go_num, by rw [hst.out]; rfl, S2.out, S3.out, S4.out.drewN _⟩
              case measure => simp [intOf]; omega
          · obtain rfl : j = zs.length := by omega
            rw [Nat.sub_self] at P2
            simp only [List.replicate_zero, List.append_nil] at P2
            rw [List.take_of_length_le (by rw [hPl.out]; exact Nat.le_refl _)] at P2
            have SUz := Lib.hid (fun W => SU.out z u W)
            have q10 := Q1.out.cell 0 (.int .i64 z) rfl
            have q20 := Q2.out.cell 0 (.int .i64 u) rfl
            have q30 := Q3.out.cell 0 (.int .i64 0) rfl
            have q31 := Q3.out.cell 1 (.slice none 0 0) rfl
            have p30 := Q3.out.frozen 0
            have p31 := Q3.out.frozen 1
            have HB := Lib.hid ((BW.out.setCell (p := ⟨w.heap.size + 1 + 1, 0, none⟩) (by simp; omega) (.int .i64 0)).setCell (p := ⟨w.heap.size + 1 + 1, 1, none⟩) (by simp; omega) (.slice none 0 0))
            have hge : decide ((zs.length : Int) < (zs.length : Int)) = false := by simp
            cases hap : addP z k u with
            | none =>
              rw [hap] at SUz hR
              simp only [Option.bind_none] at hR
              simp only [Option.getD_none, Option.isSome_none] at SUz
              have HR := Lib.hid (show R = none from hR.out)
              generalize F zs.length = fn at *
              clear hR hap SU hF hPk hro Q1 Q2 Q3 Q4 P2 P3 P4 BW
              cases fn
              all_goals
                go_wp2_with fail
                refine (SUz.out _).mono ?_
                rintro e w6 ⟨rfl, rfl⟩
                go_wp2
                refine bodyPost_ret (v := .tuple #[.agg #[.int .i64 0, .slice none 0 0], .bool false]) (by simp [results, Try.results45, go_sem, q30, q31]) rfl ?_
                rw [HR.out]
                exact LinI.gaveOC_none HB.out
            | some x =>
              rw [hap] at SUz hR
              simp only [Option.bind_some] at hR
              simp only [Option.getD_some, Option.isSome_some] at SUz
              have hq4 := Lib.hid Q4.out
              cases hfn : F zs.length with
              | false =>
                rw [hfn] at hR
                have HR := Lib.hid (show R = none from hR.out)
                clear hR hap SU hF hPk hro Q1 Q2 Q3 Q4 P2 P3 P4 BW hfn hq4
                go_wp2_with fail
                refine (SUz.out _).mono ?_
                rintro e w6 ⟨rfl, rfl⟩
                go_wp2
                refine bodyPost_ret (v := .tuple #[.agg #[.int .i64 0, .slice none 0 0], .bool false]) (by simp [results, Try.results45, go_sem, q30, q31]) rfl ?_
                rw [HR.out]
                exact LinI.gaveOC_none HB.out
              | true =>
                rw [hfn] at hR
                have HR := Lib.hid (show R = some (x, P) from hR.out)
                have q40 := Q4.out.cell 0 (.int .i64 0) rfl
                have q41 := Q4.out.cell 1 (.slice (some ⟨w2.heap.size, 0, none⟩) zs.length zs.length) rfl
                have p40 := Q4.out.frozen 0
                have hne := show w2.heap.size + 1 ≠ w.heap.size + 1 + 1 by omega
                have hne' := show w.heap.size + 1 + 1 ≠ w2.heap.size + 1 by omega
                have m0 : Mod (w2.heap.size + 1) (w2.heap.size + 2) wr (wr.setCell ⟨w2.heap.size + 1, 0, none⟩ (.int .i64 x)) := Mod.set wr (p := ⟨w2.heap.size + 1, 0, none⟩) (Nat.le_refl _) (Nat.lt_succ_self _) _
                have hk := LinI.keep_row (mid := w.heap.size + 3) (BW.out.setCell (p := ⟨w2.heap.size + 1, 0, none⟩) (by show _ ≤ w2.heap.size + 1; omega) (.int .i64 x)) (P2.out.keep m0 (Or.inl (Nat.le_refl _))) (by rw [hPl.out]; exact P3.out.set _ _)
                  (((Mod.set _ (p := ⟨w.heap.size + 1 + 1, 0, none⟩) (by simp; omega) (by simp) (.int .i64 x)).trans (Mod.set _ (p := ⟨w.heap.size + 1 + 1, 1, none⟩) (by simp; omega) (by simp) (.slice (some ⟨w2.heap.size, 0, none⟩) zs.length zs.length)))) (by omega) (by omega) (by simp; omega)
                have HK := Lib.hid hk
                clear hR hap SU hF hPk hro Q1 Q2 Q3 Q4 P2 P3 P4 BW hfn hq4 hk m0
                go_wp2_with fail
                refine (SUz.out _).mono ?_
                rintro e w6 ⟨rfl, rfl⟩
                go_wp2
                refine bodyPost_ret (v := .tuple #[.agg #[.int .i64 x, .slice (some ⟨w2.heap.size, 0, none⟩) zs.length zs.length], .bool true]) (by simp [results, Try.results45, go_sem, q30, q31]) rfl ⟨some ⟨w2.heap.size, 0, none⟩, zs.length, ?_, ?_⟩
                · rw [HR.out]; simp [hPl.out]
                · rw [HR.out]; exact ⟨HK.out.1, HK.out.2.1, HK.out.2.2, by have := hPl.out; simp; omega⟩
      · have HR := Lib.hid (hRk.out (by simpa using h3))
        simp only [Bool.not_eq_true] at h3
        rw [h3] at IC
        clear hRv hRk hR h1 h2 h3
        go_enter Try.func45, Try.ntmps45
        go_wp2_with fail
        refine (V1.out _ BB.out).mono ?_
        rintro e w1 ⟨rfl, b1⟩
        have M2 := Lib.hid (L2.out.below b1)
        have M3 := Lib.hid (L3.out.below b1)
        have B1 := Lib.hid (BB.out.trans (b1.mono BB.out.size))
        clear b1 L1 L2 L3 BB V1
        have l2 := M2.out.cell 0 _ rfl
        have l2' := M2.out.cell 1 _ rfl
        go_wp2_with fail
        refine (V2.out _ B1.out).mono ?_
        rintro e w2 ⟨rfl, b2⟩
        have B2 := Lib.hid (B1.out.trans (b2.mono B1.out.size))
        have N3 := Lib.hid (M3.out.below b2)
        clear b2 M2 M3 V2 l2 l2'
        have q30 := N3.out.cell 0 (.int .i64 0) rfl
        have q31 := N3.out.cell 1 (.slice none 0 0) rfl
        have p30 := N3.out.frozen 0
        have p31 := N3.out.frozen 1
        have HB := Lib.hid ((B2.out.setCell (p := ⟨w.heap.size + 1 + 1, 0, none⟩) (by simp; omega) (.int .i64 0)).setCell (p := ⟨w.heap.size + 1 + 1, 1, none⟩) (by simp; omega) (.slice none 0 0))
        go_wp2_with fail
        refine (IC.out _).mono ?_
        rintro e w3 ⟨rfl, rfl⟩
        go_wp2
        refine bodyPost_ret (v := .tuple #[.agg #[.int .i64 0, .slice none 0 0], .bool false]) (by simp [results, Try.results45, go_sem, q30, q31]) rfl ?_
        rw [HR.out]
        exact LinI.gaveOC_none HB.out
    · have HR := Lib.hid (hRv.out (fun h => h2 h.2))
      simp only [Bool.not_eq_true] at h2
      rw [h2] at V2
      clear hRv hRk hR h1 h2
      go_enter Try.func45, Try.ntmps45
      go_wp2_with fail
      refine (V1.out _ BB.out).mono ?_
      rintro e w1 ⟨rfl, b1⟩
      have M2 := Lib.hid (L2.out.below b1)
      have M3 := Lib.hid (L3.out.below b1)
      have B1 := Lib.hid (BB.out.trans (b1.mono BB.out.size))
      clear b1 L1 L2 L3 BB V1
      have l2 := M2.out.cell 0 _ rfl
      have l2' := M2.out.cell 1 _ rfl
      go_wp2_with fail
      refine (V2.out _ B1.out).mono ?_
      rintro e w2 ⟨rfl, b2⟩
      have B2 := Lib.hid (B1.out.trans (b2.mono B1.out.size))
      have N3 := Lib.hid (M3.out.below b2)
      clear b2 M2 M3 V2 l2 l2'
      have q30 := N3.out.cell 0 (.int .i64 0) rfl
      have q31 := N3.out.cell 1 (.slice none 0 0) rfl
      have p30 := N3.out.frozen 0
      have p31 := N3.out.frozen 1
      have HB := Lib.hid ((B2.out.setCell (p := ⟨w.heap.size + 1 + 1, 0, none⟩) (by simp; omega) (.int .i64 0)).setCell (p := ⟨w.heap.size + 1 + 1, 1, none⟩) (by simp; omega) (.slice none 0 0))
      go_wp2
      refine bodyPost_ret (v := .tuple #[.agg #[.int .i64 0, .slice none 0 0], .bool false]) (by simp [results, Try.results45, go_sem, q30, q31]) rfl ?_
      rw [HR.out]
      exact LinI.gaveOC_none HB.out
  · have HR := Lib.hid (hRv.out (fun h => h1 h.1))
    simp only [Bool.not_eq_true] at h1
    rw [h1] at V1
    clear hRv hRk hR h1
    go_enter Try.func45, Try.ntmps45
    go_wp2_with fail
    refine (V1.out _ BB.out).mono ?_
    rintro e w1 ⟨rfl, b1⟩
    have M3 := Lib.hid (L3.out.below b1)
    have B1 := Lib.hid (BB.out.trans (b1.mono BB.out.size))
    clear b1 L1 L2 L3 BB V1
    have q30 := M3.out.cell 0 (.int .i64 0) rfl
    have q31 := M3.out.cell 1 (.slice none 0 0) rfl
    have p30 := M3.out.frozen 0
    have p31 := M3.out.frozen 1
    have HB := Lib.hid ((B1.out.setCell (p := ⟨w.heap.size + 1 + 1, 0, none⟩) (by simp; omega) (.int .i64 0)).setCell (p := ⟨w.heap.size + 1 + 1, 1, none⟩) (by simp; omega) (.slice none 0 0))
    go_wp2
    refine bodyPost_ret (v := .tuple #[.agg #[.int .i64 0, .slice none 0 0], .bool false]) (by simp [results, Try.results45, go_sem, q30, q31]) rfl ?_
    rw [HR.out]
    exact LinI.gaveOC_none HB.out
theorem addScaled (lo hi lo' hi' : Nat) (z k u : Int) (A B : Option Addr) (c d : Nat) (zs us : List Int) (w : World) (hA : Row lo hi w A (IntK.iv zs)) (hB : Row lo' hi' w B (IntK.iv us)) (hl : zs.length ≤ 1000000000) (hl2 : us.length ≤ 1000000000) :
    Calls Try.prog 45 #[.agg #[.int .i64 z, .slice A zs.length c], .int .i64 k, .agg #[.int .i64 u, .slice B us.length d]] w (LinI.GaveO w (addS z zs k u us)) :=
  (addScaledC lo hi lo' hi' z k u A B c d zs us w hA hB hl hl2).mono fun _ _ h => h.gave
end LinS
end Go.Proofs.Ytmkelfjnjnjgbaa
