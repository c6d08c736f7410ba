/-
  The program's linear expressions: copies and tightened constraints.
-/
import Derived.Test.YtjhjbnfdnecidaaLinImpl
import Derived.Test.YtjhjbnfdnecidaaShelf
import Derived.Deep.RegionHeld3
namespace Go.Proofs.Ytjhjbnfdnecidaa
open Go.RowKit
namespace LinI
open RowK LinM ArithM

/-- A slice of integers in new memory. -/
def GaveInts (w : World) (zs : List Int) (e : Ending) (w' : World) : Prop :=
  ∃ A c, e = .returned (.slice A zs.length c) ∧ Row w.heap.size w'.heap.size w' A (IntK.iv zs) ∧ Free w' A zs.length ∧ Below w.heap.size w w'

theorem gave_own {w w' : World} {zs : List Int} {v : Value} (h : w'.ownsRow w.heap.size 3 1 v zs.length (IntK.iv zs)) (hb : Below w.heap.size w w') : GaveInts w zs (.returned v) w' := by
  obtain ⟨A, c, e, h1, h2, _, _⟩ := of_own h
  rw [IntK.iv_len] at h2
  exact ⟨A, c, by rw [e], h1, h2, hb⟩

/-- Behind a row was made, only blocks below it were written. -/
theorem keep_row {w w1 W : World} {lo hi mid : Nat} {A : Option Addr} {zs : List Int} (b0 : Below w.heap.size w w1) (r : Row lo hi w1 A (IntK.iv zs)) (f : Free w1 A zs.length) (hm : Mod w.heap.size mid w1 W) (h1 : mid ≤ lo) (h2 : w.heap.size ≤ lo) (h3 : hi ≤ w1.heap.size) :
    Row w.heap.size W.heap.size W A (IntK.iv zs) ∧ Free W A zs.length ∧ Below w.heap.size w W :=
  ⟨(r.keep hm (Or.inr h1)).wider h2 (Nat.le_trans h3 hm.size) (Nat.le_refl _), f.keep r (by rw [IntK.iv_len]; exact Nat.le_refl _) hm (Or.inr h1), below_mod b0 hm (Nat.le_refl _) b0.size⟩

theorem clone (lo hi : Nat) (A : Option Addr) (c : Nat) (zs : List Int) (w : World) (hA : Row lo hi w A (IntK.iv zs)) (hl : zs.length ≤ 1000000000) :
    Calls Try.prog 73 #[.slice A zs.length c] w (GaveInts w zs) := by
  by_cases hn : zs = []
  · subst hn
    cases A with
    | none =>
      refine (Try.slices_Clone_int_nil _ _ _).mono ?_
      rintro e w' ⟨rfl, rfl⟩
      exact ⟨none, 0, rfl, row_nil _ _ _ _, free_zero _ _, Below.refl _ _⟩
    | some a =>
      refine (Try.slices_Clone_int_zero a c w).mono ?_
      rintro e w' ⟨v, rfl, h, _, hb⟩
      exact gave_own (zs := []) h hb
  · obtain ⟨b, o, rfl, hlt, hc⟩ := hA (by simpa [IntK.iv] using hn)
    refine (Try.slices_Clone_int b o zs.length c zs w (Nat.le_refl _) (by omega) (fun j hj => ?_)).mono ?_
    · rw [hc j (.int .i64 zs[j]) (by rw [List.getElem?_eq_getElem (by rw [IntK.iv_len]; exact hj), IntK.iv_get hj])]
      simp [List.getD, List.getElem?_eq_getElem hj]
    · rintro e w' ⟨v, rfl, h, _, hb⟩
      rw [List.take_length] at h
      exact gave_own h hb

set_option maxHeartbeats 1000000 in
set_option maxRecDepth 100000 in
theorem copy (lo hi : Nat) (z : Int) (A : Option Addr) (c : Nat) (zs : List Int) (w : World) (hA : Row lo hi w A (IntK.iv zs)) (hl : zs.length ≤ 1000000000) :
    Calls Try.prog 56 #[.agg #[.int .i64 z, .slice A zs.length c]] w (Gave w z zs) := by
  have CL := Lib.hid (fun W (h : Below w.heap.size w W) => clone lo hi A c zs W (hA.below h) hl)
  go_enter Try.func56, Try.ntmps56
  go_wp2_with fail
  go_region_held3 (fun w' => w'.cell? ⟨w.heap.size, 0, none⟩ = some (.int .i64 z) ∧ w'.cell? ⟨w.heap.size, 1, none⟩ = some (.slice A zs.length c)) (first | go_keep | (refine ⟨?_, ?_⟩ <;> (rw [b1.cell (by simp; omega)]; simp; done)))
    ((go_at_call 73; refine (CL.out _ (((Below.refl _ _).alloc (Nat.le_refl _) _).alloc (by simp) _).drew).mono ?_; rintro e w1 ⟨A1, c1, rfl, r1, f1, b1⟩; (obtain ⟨hc1, hf1⟩ := LinK.bcell b1)))
  have b0 : Below w.heap.size w w1 := ((((Below.refl _ _).alloc (Nat.le_refl _) _).alloc (by simp) _).drew).trans (b1.mono (by simp; omega))
  have hsz := b1.size
  have hz1 : w.heap.size + 1 < w1.heap.size := by simp at hsz; omega
  have hk := keep_row (mid := w.heap.size + 2) b0 r1 f1 ((Mod.set w1 (p := ⟨w.heap.size + 1, 0, none⟩) (by simp) (by simp) (.int .i64 z)).trans (Mod.set _ (p := ⟨w.heap.size + 1, 1, none⟩) (by simp) (by simp) (.slice A1 zs.length c1))) (by simp) (by simp; omega) (Nat.le_refl _)
  go_wp2
  exact bodyPost_ret (v := .agg #[.int .i64 z, .slice A1 zs.length c1]) (by simp [results, Try.results56, go_sem, hc1]) rfl ⟨A1, c1, rfl, hk⟩

theorem tight_eq (z : Int) (zs : List Int) (h : ¬ (vldB z zs zs.length = true ∧ 2 ≤ gcds zs)) : tightL z zs = (z, zs) := if_neg h
theorem tight_div (z : Int) (zs : List Int) (h : vldB z zs zs.length = true) (h2 : 2 ≤ gcds zs) : tightL z zs = (floorL z (gcds zs), zs.map fun x => x.tdiv (gcds zs)) := if_pos ⟨h, h2⟩

theorem tight_len (z : Int) (zs : List Int) : (tightL z zs).2.length = zs.length := by unfold tightL; split <;> simp

theorem store_iv {lo hi : Nat} {w : World} {b o : Nat} {zs : List Int} (h : Row lo hi w (some ⟨b, o, none⟩) (IntK.iv zs)) {k : Nat} (hk : k < zs.length) (x : Int) : Row lo hi (w.setCell ⟨b, o + k, none⟩ (.int .i64 x)) (some ⟨b, o, none⟩) (IntK.iv (zs.set k x)) := by
  have := h.store (k := k) (by rw [IntK.iv_len]; exact hk) (.int .i64 x)
  rwa [show (IntK.iv zs).set k (.int .i64 x) = IntK.iv (zs.set k x) by simp [IntK.iv, List.map_set]] at this

set_option maxHeartbeats 2000000 in
set_option maxRecDepth 100000 in
theorem tighten (lo hi : Nat) (z : Int) (A : Option Addr) (c : Nat) (zs : List Int) (w : World) (hz0 : -9223372036854775808 ≤ z) (hz1 : z ≤ 9223372036854775807) (hA : Row lo hi w A (IntK.iv zs)) (hl : zs.length ≤ 1000000000) :
    Calls Try.prog 23 #[.agg #[.int .i64 z, .slice A zs.length c]] w (Gave w (tightL z zs).1 (tightL z zs).2) := by
  have CP := Lib.hid (fun W (h : Below w.heap.size w W) => copy lo hi z A c zs W (hA.below h) hl)
  have VL := Lib.hid (fun W (h : Below w.heap.size w W) => valid lo hi z A c zs zs.length W (hA.below h) hl)
  have GC := Lib.hid (fun x y W => ArithI.gcd x y W)
  have FD := Lib.hid (fun y h1 h2 W => ArithI.floorDiv z y hz0 hz1 h1 h2 W)
  have bb : Below w.heap.size w ((w.alloc (Obj.cells #[Value.int IntKind.i64 z, Value.slice A zs.length c] 26)).alloc (Obj.cells #[Value.int IntKind.i64 0, Value.slice none 0 0] 26)) := ((Below.refl _ _).alloc (Nat.le_refl _) _).alloc (by simp) _
  have BB := Lib.hid bb
  clear bb
  have hq1 := Lib.hid (fun (h : ¬ (vldB z zs zs.length = true ∧ 2 ≤ gcds zs)) => tight_eq z zs h)
  have hq2 := Lib.hid (fun h (h2 : 2 ≤ gcds zs) => tight_div z zs h h2)
  generalize tightL z zs = T at *
  by_cases hv : vldB z zs zs.length = true
  · rw [hv] at VL
    go_enter Try.func23, Try.ntmps23
    go_wp2_with fail
    refine (CP.out _ BB.out).mono ?_
    rintro e w1 ⟨A1, c1, rfl, r1, f1, b1⟩
    have hs1 := b1.size
    simp only [World.size_alloc] at hs1 r1
    have hz1 : w.heap.size + 1 < w1.heap.size := by omega
    have hz1' : w.heap.size < w1.heap.size := by omega
    have B1 := Lib.hid (BB.out.trans (b1.mono BB.out.size))
    have L1 := Lib.hid ((((Lvar.new w _ _).alloc _).below b1 : Lvar w1 w.heap.size #[Value.int IntKind.i64 z, Value.slice A zs.length c]))
    have L2 := Lib.hid ((Lvar.new (w.alloc (Obj.cells #[Value.int IntKind.i64 z, Value.slice A zs.length c] 26)) _ _).below b1 : Lvar w1 (w.alloc (Obj.cells #[Value.int IntKind.i64 z, Value.slice A zs.length c] 26)).heap.size #[Value.int IntKind.i64 0, Value.slice none 0 0])
    simp only [World.size_alloc] at L2
    clear b1
    have l1 := L1.out.cell 0 _ rfl
    have l1' := L1.out.cell 1 _ rfl
    go_wp2_with fail
    refine (VL.out _ (B1.out.alloc B1.out.size _)).mono ?_
    rintro e w2 ⟨rfl, b2⟩
    have d2 : Below w1.heap.size w1 w2 := ((Below.refl _ _).alloc (Nat.le_refl _) _).trans (b2.mono (by simp))
    have hs2 := b2.size
    simp only [World.size_alloc] at hs2
    have B2 := Lib.hid (B1.out.trans (d2.mono B1.out.size))
    have R2 := Lib.hid (r1.below d2)
    have F2 := Lib.hid (f1.below r1 (by rw [IntK.iv_len]; exact Nat.le_refl _) d2)
    have M1 := Lib.hid (L1.out.below d2)
    have M2 := Lib.hid (L2.out.below d2)
    have M3 := Lib.hid ((Lvar.new w1 _ _).below b2 : Lvar w2 w1.heap.size #[Value.int IntKind.i64 z, Value.slice A1 zs.length c1])
    clear l1 l1' L1 L2 b2 d2 r1 f1 B1 VL CP
    have l1 := M1.out.cell 1 _ rfl
    go_wp2
    have HC := Lib.hid (vldB_iff.1 hv).2.2.2
    have hA2 := Lib.hid (hA.below B2.out)
    clear l1
    go_loopw [4, 20] (fun dv i wr => ∃ k : Nat, k ≤ zs.length ∧ i = .int .i64 k ∧ dv = .int .i64 (gcds (zs.take k)) ∧ Below w2.heap.size w2 wr) (fun _ i _ => zs.length - (intOf i).toNat)
    case atStart => exact ⟨0, Nat.zero_le _, rfl, rfl, Below.refl _ _⟩
    case round =>
      obtain ⟨k, hk, rfl, rfl, hb⟩ := hrel
      have HB := Lib.hid hb
      clear hb
      by_cases hlt : k < zs.length
      · obtain ⟨b2, o2, e2, _, hc2⟩ := IntK.at_ (hA2.out.below HB.out) hlt
        subst e2
        have hst := Lib.hid (gcds_take zs k hlt)
        generalize zs[k] = x at *
        generalize gcds (zs.take k) = D at *
        have hk1 : (k : Int) < (zs.length : Int) := by omega
        go_wp2_with fail
        refine (GC.out D x _).mono ?_
        rintro e w3 ⟨rfl, b3⟩
        go_wp2
        go_roundw
        case rel => exact ⟨k + 1, by omega, by go_num, congrArg (Value.int .i64) hst.out.symm, below_step HB.out b3⟩
        case measure => simp [intOf]; omega
      · obtain rfl : k = zs.length := by omega
        have hgb := gcds_bound zs HC.out
        have hq1 := Lib.hid (fun (h : ¬ 2 ≤ gcds zs) => hq1.out (fun h2 => h h2.2))
        have hq2 := Lib.hid (fun (h : 2 ≤ gcds zs) => hq2.out hv h)
        rw [List.take_length]
        generalize gcds zs = G at *
        have N2 := Lib.hid (M2.out.below HB.out)
        have N3 := Lib.hid (M3.out.below HB.out)
        have n1 := M1.out.below HB.out |>.cell 0 _ rfl
        have N1 := Lib.hid (M1.out.below HB.out)
        have n20 := N2.out.cell 0 _ rfl
        have n21 := N2.out.cell 1 _ rfl
        have n30 := N3.out.cell 0 _ rfl
        have n31 := N3.out.cell 1 _ rfl
        have p20 := N2.out.frozen 0
        have p21 := N2.out.frozen 1
        have p30 := N3.out.frozen 0
        have BR := Lib.hid (B2.out.trans (HB.out.mono B2.out.size))
        have RR := Lib.hid (R2.out.below HB.out)
        have FR := Lib.hid (F2.out.below R2.out (by rw [IntK.iv_len]; exact Nat.le_refl _) HB.out)
        have HCS := Lib.hid (fun k (h : k < zs.length) => all_get HC.out k h)
        clear M1 M2 M3 hA2 HC BB
        by_cases hG : 2 ≤ G
        · have HT := Lib.hid (hq2.out hG)
          have hG1 : decide (G ≤ 1) = false := by simp; omega
          clear hq1 hq2
          go_wp2
          have Q1 := Lib.hid n1
          clear n1 n20 n21 n30 n31 p20 p21 p30
          obtain ⟨w3, rfl⟩ : ∃ w3 : World, w3 = wr := ⟨_, rfl⟩
          go_loopw [34] (fun i wr => ∃ k : Nat, k ≤ zs.length ∧ i = .int .i64 k ∧ Row (w.heap.size + 1 + 1) w1.heap.size wr A1 (IntK.iv (divPart G zs k)) ∧ Free wr A1 zs.length ∧ Mod (w.heap.size + 1 + 1) w1.heap.size w3 wr) (fun i _ => zs.length - (intOf i).toNat)
          case atStart => exact ⟨0, Nat.zero_le _, rfl, by rw [divPart_zero]; exact RR.out, FR.out, Mod.refl _ _ _⟩
          case round =>
            obtain ⟨k, hk, rfl, h1, h2, h3⟩ := hrel
            have P1 := Lib.hid h1
            have P2 := Lib.hid h2
            have P3 := Lib.hid h3
            clear h1 h2 h3
            by_cases hlt : k < zs.length
            · obtain ⟨b2, o2, e2, hbb, hc2⟩ := IntK.at_ P1.out (k := k) (by rw [divPart_len]; exact hlt)
              rw [show (divPart G zs k)[k]'(by rw [divPart_len]; exact hlt) = zs[k] from Option.some.inj ((List.getElem?_eq_getElem _).symm.trans (divPart_get G zs k hlt))] at hc2
              have hfr := P2.out (by omega) b2 o2 e2 k hlt
              subst e2
              have S1 := Lib.hid (store_iv P1.out (k := k) (by rw [divPart_len]; exact hlt) (zs[k].tdiv G))
              rw [divPart_set G zs k hlt] at S1
              have S2 := Lib.hid (P2.out.set ⟨b2, o2 + k, none⟩ (.int .i64 (zs[k].tdiv G)))
              have S3 := Lib.hid (P3.out.trans (Mod.set wr (p := ⟨b2, o2 + k, none⟩) hbb.1 hbb.2.1 (.int .i64 (zs[k].tdiv G))))
              have l1 := (N3.out.keep P3.out (by simp)).cell 1 (.slice (some ⟨b2, o2, none⟩) zs.length c1) rfl
              have hx := tdiv_bound (HCS.out k hlt) (show 1 ≤ G by omega)
              have hxx := ArithM.inC_iff.1 (HCS.out k hlt)
              generalize zs[k] = x at *
              have hk1 : (k : Int) < (zs.length : Int) := by omega
              go_wp2
              go_roundw
              case rel => exact ⟨k + 1, by omega, by go_num, S1.out, S2.out, S3.out⟩
              case measure => simp [intOf]; omega
            · obtain rfl : k = zs.length := by omega
              rw [divPart_all] at P1
              have U1 := Lib.hid (N1.out.keep P3.out (by omega))
              have U2 := Lib.hid (N2.out.keep P3.out (by omega))
              have U3 := Lib.hid (N3.out.keep P3.out (by omega))
              have u1 := U1.out.cell 0 (.int .i64 z) rfl
              have u20 := U2.out.cell 0 (.int .i64 0) rfl
              have u21 := U2.out.cell 1 (.slice none 0 0) rfl
              have u30 := U3.out.cell 0 (.int .i64 z) rfl
              have u31 := U3.out.cell 1 (.slice A1 zs.length c1) rfl
              have p20 := U2.out.frozen 0
              have p21 := U2.out.frozen 1
              have p30 := U3.out.frozen 0
              have hsr := P3.out.size
              have hs3 := HB.out.size
              have hne := show w1.heap.size ≠ w.heap.size + 1 by omega
              have hne' := show w.heap.size + 1 ≠ w1.heap.size by omega
              go_wp2_with fail
              refine (FD.out G (by omega) (by omega) _).mono ?_
              rintro e w4 ⟨rfl, rfl⟩
              generalize floorL z G = F at *
              have m0 : Mod w1.heap.size (w1.heap.size + 1) wr (wr.setCell ⟨w1.heap.size, 0, none⟩ (.int .i64 F)) := Mod.set wr (p := ⟨w1.heap.size, 0, none⟩) (Nat.le_refl _) (Nat.lt_succ_self _) _
              have hk := keep_row (mid := w.heap.size + 2) ((below_mod BR.out P3.out (by omega) (by omega)).setCell (p := ⟨w1.heap.size, 0, none⟩) (by show _ ≤ w1.heap.size; omega) (.int .i64 F)) (P1.out.keep m0 (Or.inl (Nat.le_refl _))) (by rw [List.length_map]; exact P2.out.set _ _)
                (((Mod.set _ (p := ⟨w.heap.size + 1, 0, none⟩) (by simp) (by simp) (.int .i64 F)).trans (Mod.set _ (p := ⟨w.heap.size + 1, 1, none⟩) (by simp) (by simp) (.slice A1 zs.length c1)))) (by omega) (by omega) (by simp; omega)
              have HK := Lib.hid hk
              clear hk m0
              go_wp2
              refine bodyPost_ret (v := .agg #[.int .i64 F, .slice A1 zs.length c1]) (by simp [results, Try.results23, go_sem, u20, u21]) rfl ⟨A1, c1, by rw [HT.out]; simp, by rw [HT.out]; exact HK.out⟩
        · have HT := Lib.hid (hq1.out hG)
          have hG1 : decide (G ≤ 1) = true := by simp; omega
          clear hq1 hq2
          have hk := keep_row (mid := w.heap.size + 2) BR.out RR.out FR.out ((Mod.set wr (p := ⟨w.heap.size + 1, 0, none⟩) (by simp) (by simp) (.int .i64 z)).trans (Mod.set _ (p := ⟨w.heap.size + 1, 1, none⟩) (by simp) (by simp) (.slice A1 zs.length c1))) (by omega) (by omega) (by have := HB.out.size; omega)
          have HK := Lib.hid hk
          clear hk
          go_wp2
          exact bodyPost_ret (v := .agg #[.int .i64 z, .slice A1 zs.length c1]) (by simp [results, Try.results23, go_sem, n20, n21]) rfl ⟨A1, c1, by rw [HT.out], by rw [HT.out]; exact HK.out⟩
  · have HT := Lib.hid (hq1.out (fun h => hv h.1))
    simp only [Bool.not_eq_true] at hv
    rw [hv] at VL
    clear hq1 hq2 hv
    go_enter Try.func23, Try.ntmps23
    go_wp2_with fail
    refine (CP.out _ BB.out).mono ?_
    rintro e w1 ⟨A1, c1, rfl, r1, f1, b1⟩
    have hs1 := b1.size
    simp only [World.size_alloc] at hs1 r1
    have hz1 : w.heap.size + 1 < w1.heap.size := by omega
    have hz1' : w.heap.size < w1.heap.size := by omega
    have B1 := Lib.hid (BB.out.trans (b1.mono BB.out.size))
    have L1 := Lib.hid ((((Lvar.new w _ _).alloc _).below b1 : Lvar w1 w.heap.size #[Value.int IntKind.i64 z, Value.slice A zs.length c]))
    have L2 := Lib.hid ((Lvar.new (w.alloc (Obj.cells #[Value.int IntKind.i64 z, Value.slice A zs.length c] 26)) _ _).below b1 : Lvar w1 (w.alloc (Obj.cells #[Value.int IntKind.i64 z, Value.slice A zs.length c] 26)).heap.size #[Value.int IntKind.i64 0, Value.slice none 0 0])
    simp only [World.size_alloc] at L2
    clear b1
    have l1 := L1.out.cell 0 _ rfl
    have l1' := L1.out.cell 1 _ rfl
    go_wp2_with fail
    refine (VL.out _ (B1.out.alloc B1.out.size _)).mono ?_
    rintro e w2 ⟨rfl, b2⟩
    have d2 : Below w1.heap.size w1 w2 := ((Below.refl _ _).alloc (Nat.le_refl _) _).trans (b2.mono (by simp))
    have hs2 := b2.size
    simp only [World.size_alloc] at hs2
    have M2 := Lib.hid (L2.out.below d2)
    have M3 := Lib.hid ((Lvar.new w1 _ _).below b2 : Lvar w2 w1.heap.size #[Value.int IntKind.i64 z, Value.slice A1 zs.length c1])
    have hk := keep_row (mid := w.heap.size + 2) (B1.out.trans (d2.mono B1.out.size)) (r1.below d2) (f1.below r1 (by rw [IntK.iv_len]; exact Nat.le_refl _) d2) ((Mod.set w2 (p := ⟨w.heap.size + 1, 0, none⟩) (by simp) (by simp) (.int .i64 z)).trans (Mod.set _ (p := ⟨w.heap.size + 1, 1, none⟩) (by simp) (by simp) (.slice A1 zs.length c1))) (by omega) (by omega) (by omega)
    have HK := Lib.hid hk
    clear l1 l1' L1 L2 b2 d2 r1 f1 B1 VL CP hk
    have u20 := M2.out.cell 0 (.int .i64 0) rfl
    have u21 := M2.out.cell 1 (.slice none 0 0) rfl
    have u30 := M3.out.cell 0 (.int .i64 z) rfl
    have u31 := M3.out.cell 1 (.slice A1 zs.length c1) rfl
    have p20 := M2.out.frozen 0
    have p21 := M2.out.frozen 1
    go_wp2
    exact bodyPost_ret (v := .agg #[.int .i64 z, .slice A1 zs.length c1]) (by simp [results, Try.results23, go_sem, u20, u21]) rfl ⟨A1, c1, by rw [HT.out], by rw [HT.out]; exact HK.out⟩
end LinI
end Go.Proofs.Ytjhjbnfdnecidaa
