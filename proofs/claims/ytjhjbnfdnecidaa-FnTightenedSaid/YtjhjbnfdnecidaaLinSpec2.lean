/-
  The model's linear expressions: copies, tightened constraints.
-/
import Derived.Test.YtjhjbnfdnecidaaLinSpec
import Derived.Test.YtjhjbnfdnecidaaLinImpl2
import Derived.Deep.RegionHeld3
import Derived.RegionTactic
import Derived.ChangeAlike
import Derived.Deep.RegionLaw
import Derived.Deep.AppendLies
import Derived.Test.YtjhjbnfdnecidaaAppend
namespace Go.Proofs.Ytjhjbnfdnecidaa
open Go.RowKit
namespace LinS
open RowK LinM ArithM

set_option maxHeartbeats 1000000 in
set_option maxRecDepth 100000 in
theorem copy (lo hi : Nat) (z : Int) (A : Option Addr) (c : Nat) (zs : List Int) (w : World) (hA : Row lo hi w A (IntK.iv zs)) (hl : zs.length ≤ 1000000000) :
    Calls Try.prog 60 #[.agg #[.int .i64 z, .slice A zs.length c]] w (LinI.Gave w z zs) := by
  obtain ⟨i0, hi0, hz0, hz1, hz2⟩ := info_parts IntK.intInfo
  have HI := Lib.hid hi0
  have HZ0 := Lib.hid hz0
  have HZ1 := Lib.hid hz1
  have HZ2 := Lib.hid hz2
  clear hi0 hz0 hz1 hz2
  have hu := Lib.hid Try.underlying24
  have b0 := Lib.hid (((Below.refl w.heap.size w).alloc (Nat.le_refl _) (Obj.cells #[Value.int IntKind.i64 z, Value.slice A zs.length c] 26)).alloc (by simp) (Obj.cells #[Value.int IntKind.i64 0, Value.slice none 0 0] 26))
  have b1 := Lib.hid ((b0.out.alloc (by simp; omega) (Obj.cells #[] 3)).drew)
  have own := Lib.hid (World.ownsRow_lit (base := w.heap.size + 2) (e := 3) (size := 1) ((w.alloc (Obj.cells #[Value.int IntKind.i64 z, Value.slice A zs.length c] 26)).alloc (Obj.cells #[Value.int IntKind.i64 0, Value.slice none 0 0] 26)) #[] 0 (by simp) (by unfold maxLen; omega) rfl)
  have L2 := Lib.hid ((((Lvar.new (w.alloc (Obj.cells #[Value.int IntKind.i64 z, Value.slice A zs.length c] 26)) #[Value.int IntKind.i64 0, Value.slice none 0 0] 26).alloc (Obj.cells #[] 3)).below ((Below.refl _ _).drew)))
  simp only [World.size_alloc] at L2
  have L1 := (((Lvar.new w #[Value.int IntKind.i64 z, Value.slice A zs.length c] 26).alloc (Obj.cells #[Value.int IntKind.i64 0, Value.slice none 0 0] 26)).alloc (Obj.cells #[] 3)).below ((Below.refl _ _).drew)
  have hfar : ∀ b o w1, b < w.heap.size + 2 → (((w.alloc (Obj.cells #[Value.int IntKind.i64 z, Value.slice A zs.length c] 26)).alloc (Obj.cells #[Value.int IntKind.i64 0, Value.slice none 0 0] 26)).alloc (Obj.cells #[] 3)).drew.grownBy w1 (some (w.heap.size + 1 + 1)) → w1.cell? ⟨b, o, none⟩ = (((w.alloc (Obj.cells #[Value.int IntKind.i64 z, Value.slice A zs.length c] 26)).alloc (Obj.cells #[Value.int IntKind.i64 0, Value.slice none 0 0] 26)).alloc (Obj.cells #[] 3)).drew.cell? ⟨b, o, none⟩ := fun b o w1 hb hg =>
    hg.cell_far ⟨b, o, none⟩ (by show b < (((w.alloc _).alloc _).alloc _).heap.size; simp; omega) (by intro e; injection e with e; simp at e; omega)
  have KC0 := Lib.hid (fun w1 hg => (hfar w.heap.size 0 w1 (by omega) hg).trans (L1.cell 0 _ rfl))
  have KC1 := Lib.hid (fun w1 hg => (hfar w.heap.size 1 w1 (by omega) hg).trans (L1.cell 1 _ rfl))
  clear L1 hfar
  have KM := Lib.hid (fun (w1 : World) (hgrow : (((w.alloc (Obj.cells #[Value.int IntKind.i64 z, Value.slice A zs.length c] 26)).alloc (Obj.cells #[Value.int IntKind.i64 0, Value.slice none 0 0] 26)).alloc (Obj.cells #[] 3)).drew.grownBy w1 (some (w.heap.size + 1 + 1))) => L2.out.keep (w' := w1) (lo := w.heap.size + 2) (hi := w.heap.size + 3) ⟨hgrow.os, hgrow.tape, hgrow.output, hgrow.size, fun i hi hn => hgrow.block i hi (by intro e; injection e with e; omega)⟩ (by omega))
  go_enter Try.func60, Try.ntmps60
  go_wp2_with fail
  go_region_held3 (fun w' => w'.cell? ⟨w.heap.size, 0, none⟩ = some (.int .i64 z) ∧ w'.cell? ⟨w.heap.size, 1, none⟩ = some (.slice A zs.length c))
    (first | exact ⟨kc0, kc1⟩ | go_keep)
    ((refine step_append_row (by rfl) _ _ _ (by rfl) 3 i0 (.int .i64 0) 1 8 (w.heap.size + 2) hu.out HI.out HZ0.out HZ1.out HZ2.out (by rfl) (by decide) (.slice (some ⟨w.heap.size + 1 + 1, 0, none⟩) 0 0) 0 [] (by rfl) (by simpa using own.out.drew) A zs.length c (IntK.iv zs) (by rfl) (by simp [IntK.iv]) (hA.below b1.out) (fun u hu => by simp only [IntK.iv, List.mem_map] at hu; obtain ⟨x, _, rfl⟩ := hu; rfl) (by unfold maxLen; omega) (by omega) (by simp) ?_; intro v1 w1 hown hgrow; simp only [Nat.zero_add, List.nil_append] at hown; (obtain ⟨A1, c1, rfl, r1, f1, _, _⟩ := of_own hown); (have kc0 : w1.cell? ⟨w.heap.size, 0, none⟩ = some (.int .i64 z) := KC0.out w1 hgrow); (have kc1 : w1.cell? ⟨w.heap.size, 1, none⟩ = some (.slice A zs.length c) := KC1.out w1 hgrow); (have m0 := (KM.out w1 hgrow).cell 0 (.int .i64 0) rfl); (have m1 := (KM.out w1 hgrow).cell 1 (.slice none 0 0) rfl); (have p0 := (KM.out w1 hgrow).frozen 0); (have p1 := (KM.out w1 hgrow).frozen 1)))
  have hgr : Below w.heap.size w w1 := b1.out.grown hgrow (by show w.heap.size ≤ (((w.alloc _).alloc _).alloc _).heap.size; simp; omega) (fun k hk => by simp [Value.ownBlock] at hk; omega)
  rw [IntK.iv_len] at f1
  have hk := LinI.keep_row (mid := w.heap.size + 2) hgr r1 f1 ((Mod.set w1 (p := ⟨w.heap.size + 1, 0, none⟩) (by simp) (by simp) (.int .i64 z)).trans (Mod.set _ (p := ⟨w.heap.size + 1, 1, none⟩) (by simp) (by simp) (.slice A1 zs.length c1))) (by omega) (by omega) (Nat.le_refl _)
  clear hown hgrow r1 f1 kc0 kc1
  go_wp2
  exact bodyPost_ret (v := .agg #[.int .i64 z, .slice A1 zs.length c1]) (by simp [results, Try.results60, go_sem, m0, m1]) rfl ⟨A1, c1, rfl, hk⟩
set_option maxHeartbeats 2000000 in
set_option maxRecDepth 100000 in
theorem tighten (lo hi : Nat) (z : Int) (A : Option Addr) (c : Nat) (zs : List Int) (w : World) (hz0 : -9223372036854775808 ≤ z) (hz1 : z ≤ 9223372036854775807) (hA : Row lo hi w A (IntK.iv zs)) (hl : zs.length ≤ 1000000000) :
    Calls Try.prog 25 #[.agg #[.int .i64 z, .slice A zs.length c]] w (LinI.Gave w (tightL z zs).1 (tightL z zs).2) := by
  have CP := Lib.hid (fun W (h : Below w.heap.size w W) => copy lo hi z A c zs W (hA.below h) hl)
  have VL := Lib.hid (fun W (h : Below w.heap.size w W) => valid lo hi z A c zs zs.length W (hA.below h) hl)
  have GC := Lib.hid (fun x y W => ArithS.gcd x y W)
  have FD := Lib.hid (fun y h1 h2 W => ArithS.floorDiv z y hz0 hz1 h1 h2 W)
  have bb : Below w.heap.size w ((w.alloc (Obj.cells #[Value.int IntKind.i64 z, Value.slice A zs.length c] 26)).alloc (Obj.cells #[Value.int IntKind.i64 0, Value.slice none 0 0] 26)) := ((Below.refl _ _).alloc (Nat.le_refl _) _).alloc (by simp) _
  have BB := Lib.hid bb
  clear bb
  have hq1 := Lib.hid (fun (h : ¬ (vldB z zs zs.length = true ∧ 2 ≤ gcds zs)) => LinI.tight_eq z zs h)
  have hq2 := Lib.hid (fun h (h2 : 2 ≤ gcds zs) => LinI.tight_div z zs h h2)
  generalize tightL z zs = T at *
  by_cases hv : vldB z zs zs.length = true
  · rw [hv] at VL
    go_enter Try.func25, Try.ntmps25
    go_wp2_with fail
    refine (CP.out _ BB.out).mono ?_
    rintro e w1 ⟨A1, c1, rfl, r1, f1, b1⟩
    have hs1 := b1.size
    simp only [World.size_alloc] at hs1 r1
    have hz1 : w.heap.size + 1 < w1.heap.size := by omega
    have hz1' : w.heap.size < w1.heap.size := by omega
    have B1 := Lib.hid (BB.out.trans (b1.mono BB.out.size))
    have L1 := Lib.hid ((((Lvar.new w _ _).alloc _).below b1 : Lvar w1 w.heap.size #[Value.int IntKind.i64 z, Value.slice A zs.length c]))
    have L2 := Lib.hid ((Lvar.new (w.alloc (Obj.cells #[Value.int IntKind.i64 z, Value.slice A zs.length c] 26)) _ _).below b1 : Lvar w1 (w.alloc (Obj.cells #[Value.int IntKind.i64 z, Value.slice A zs.length c] 26)).heap.size #[Value.int IntKind.i64 0, Value.slice none 0 0])
    simp only [World.size_alloc] at L2
    clear b1
    have l1 := L1.out.cell 0 _ rfl
    have l1' := L1.out.cell 1 _ rfl
    go_wp2_with fail
    refine (VL.out _ (B1.out.alloc B1.out.size _)).mono ?_
    rintro e w2 ⟨rfl, b2⟩
    have d2 : Below w1.heap.size w1 w2 := ((Below.refl _ _).alloc (Nat.le_refl _) _).trans (b2.mono (by simp))
    have hs2 := b2.size
    simp only [World.size_alloc] at hs2
    have B2 := Lib.hid (B1.out.trans (d2.mono B1.out.size))
    have R2 := Lib.hid (r1.below d2)
    have F2 := Lib.hid (f1.below r1 (by rw [IntK.iv_len]; exact Nat.le_refl _) d2)
    have M1 := Lib.hid (L1.out.below d2)
    have M2 := Lib.hid (L2.out.below d2)
    have M3 := Lib.hid ((Lvar.new w1 _ _).below b2 : Lvar w2 w1.heap.size #[Value.int IntKind.i64 z, Value.slice A1 zs.length c1])
    clear l1 l1' L1 L2 b2 d2 r1 f1 B1 VL CP
    have l1 := M1.out.cell 1 _ rfl
    go_wp2
    have HC := Lib.hid (vldB_iff.1 hv).2.2.2
    have hA2 := Lib.hid (hA.below B2.out)
    clear l1
    go_loopw [4, 5] (fun dv i wr => ∃ k : Nat, k ≤ zs.length ∧ i = .int .i64 k ∧ dv = .int .i64 (gcds (zs.take k)) ∧ Below w2.heap.size w2 wr) (fun _ i _ => zs.length - (intOf i).toNat)
    case atStart => exact ⟨0, Nat.zero_le _, rfl, rfl, Below.refl _ _⟩
    case round =>
      obtain ⟨k, hk, rfl, rfl, hb⟩ := hrel
      have HB := Lib.hid hb
      clear hb
      by_cases hlt : k < zs.length
      · obtain ⟨b2, o2, e2, _, hc2⟩ := IntK.at_ (R2.out.below HB.out) hlt
        have l3 := (M3.out.below HB.out).cell 1 (.slice A1 zs.length c1) rfl
        subst e2
        have hst := Lib.hid (gcds_take zs k hlt)
        generalize zs[k] = x at *
        generalize gcds (zs.take k) = D at *
        have hk1 : (k : Int) < (zs.length : Int) := by omega
        go_wp2_with fail
        refine (GC.out D x _).mono ?_
        rintro e w3 ⟨rfl, b3⟩
        go_wp2
        go_roundw
        case rel => exact ⟨k + 1, by omega, by go_num, congrArg (Value.int .i64) hst.out.symm, below_step HB.out b3⟩
        case measure => simp [intOf]; omega
      · obtain rfl : k = zs.length := by omega
        have l3 := (M3.out.below HB.out).cell 1 (.slice A1 zs.length c1) rfl
        have hgb := gcds_bound zs HC.out
        have hq1 := Lib.hid (fun (h : ¬ 2 ≤ gcds zs) => hq1.out (fun h2 => h h2.2))
        have hq2 := Lib.hid (fun (h : 2 ≤ gcds zs) => hq2.out hv h)
        rw [List.take_length]
        generalize gcds zs = G at *
        have N2 := Lib.hid (M2.out.below HB.out)
        have N3 := Lib.hid (M3.out.below HB.out)
        have n1 := M1.out.below HB.out |>.cell 0 _ rfl
        have N1 := Lib.hid (M1.out.below HB.out)
        have n20 := N2.out.cell 0 _ rfl
        have n21 := N2.out.cell 1 _ rfl
        have n30 := N3.out.cell 0 _ rfl
        have n31 := N3.out.cell 1 _ rfl
        have p20 := N2.out.frozen 0
        have p21 := N2.out.frozen 1
        have p30 := N3.out.frozen 0
        have BR := Lib.hid (B2.out.trans (HB.out.mono B2.out.size))
        have RR := Lib.hid (R2.out.below HB.out)
        have FR := Lib.hid (F2.out.below R2.out (by rw [IntK.iv_len]; exact Nat.le_refl _) HB.out)
        have HCS := Lib.hid (fun k (h : k < zs.length) => all_get HC.out k h)
        clear M1 M2 M3 hA2 HC BB
        by_cases hG : 2 ≤ G
        · have HT := Lib.hid (hq2.out hG)
          have hG1 : decide (G < 2) = false := by simp; omega
          clear hq1 hq2
          go_wp2
          have Q1 := Lib.hid n1
          clear n1 n20 n21 n30 n31 p20 p21 p30
          obtain ⟨w3, rfl⟩ : ∃ w3 : World, w3 = wr := ⟨_, rfl⟩
          go_loopw [6] (fun i wr => ∃ k : Nat, k ≤ zs.length ∧ i = .int .i64 k ∧ Row (w.heap.size + 1 + 1) w1.heap.size wr A1 (IntK.iv (divPart G zs k)) ∧ Free wr A1 zs.length ∧ Mod (w.heap.size + 1 + 1) w1.heap.size w3 wr) (fun i _ => zs.length - (intOf i).toNat)
          case atStart => exact ⟨0, Nat.zero_le _, rfl, by rw [divPart_zero]; exact RR.out, FR.out, Mod.refl _ _ _⟩
          case round =>
            obtain ⟨k, hk, rfl, h1, h2, h3⟩ := hrel
            have P1 := Lib.hid h1
            have P2 := Lib.hid h2
            have P3 := Lib.hid h3
            clear h1 h2 h3
            by_cases hlt : k < zs.length
            · obtain ⟨b2, o2, e2, hbb, hc2⟩ := IntK.at_ P1.out (k := k) (by rw [divPart_len]; exact hlt)
              rw [show (divPart G zs k)[k]'(by rw [divPart_len]; exact hlt) = zs[k] from Option.some.inj ((List.getElem?_eq_getElem _).symm.trans (divPart_get G zs k hlt))] at hc2
              have hfr := P2.out (by omega) b2 o2 e2 k hlt
              subst e2
              have S1 := Lib.hid (LinI.store_iv P1.out (k := k) (by rw [divPart_len]; exact hlt) (zs[k].tdiv G))
              rw [divPart_set G zs k hlt] at S1
              have S2 := Lib.hid (P2.out.set ⟨b2, o2 + k, none⟩ (.int .i64 (zs[k].tdiv G)))
              have S3 := Lib.hid (P3.out.trans (Mod.set wr (p := ⟨b2, o2 + k, none⟩) hbb.1 hbb.2.1 (.int .i64 (zs[k].tdiv G))))
              have l1 := (N3.out.keep P3.out (by simp)).cell 1 (.slice (some ⟨b2, o2, none⟩) zs.length c1) rfl
              have hx := tdiv_bound (HCS.out k hlt) (show 1 ≤ G by omega)
              have hxx := ArithM.inC_iff.1 (HCS.out k hlt)
              generalize zs[k] = x at *
              have hk1 : (k : Int) < (zs.length : Int) := by omega
              have hk0 : (0 : Int) ≤ (k : Int) := by omega
              go_wp2
              go_region
              go_wp2
              go_roundw
              case rel => exact ⟨k + 1, by omega, by go_num, S1.out, S2.out, S3.out.drew⟩
              case measure => simp [intOf]; omega
            · obtain rfl : k = zs.length := by omega
              rw [divPart_all] at P1
              have U1 := Lib.hid (N1.out.keep P3.out (by omega))
              have U2 := Lib.hid (N2.out.keep P3.out (by omega))
              have U3 := Lib.hid (N3.out.keep P3.out (by omega))
              have u1 := U1.out.cell 0 (.int .i64 z) rfl
              have u20 := U2.out.cell 0 (.int .i64 0) rfl
              have u21 := U2.out.cell 1 (.slice none 0 0) rfl
              have u30 := U3.out.cell 0 (.int .i64 z) rfl
              have u31 := U3.out.cell 1 (.slice A1 zs.length c1) rfl
              have p20 := U2.out.frozen 0
              have p21 := U2.out.frozen 1
              have p30 := U3.out.frozen 0
              have hsr := P3.out.size
              have hs3 := HB.out.size
              have hne := show w1.heap.size ≠ w.heap.size + 1 by omega
              have hne' := show w.heap.size + 1 ≠ w1.heap.size by omega
              go_wp2_with fail
              refine (FD.out G (by omega) (by omega) _).mono ?_
              rintro e w4 ⟨rfl, rfl⟩
              generalize floorL z G = F at *
              have m0 : Mod w1.heap.size (w1.heap.size + 1) wr (wr.setCell ⟨w1.heap.size, 0, none⟩ (.int .i64 F)) := Mod.set wr (p := ⟨w1.heap.size, 0, none⟩) (Nat.le_refl _) (Nat.lt_succ_self _) _
              have hk := LinI.keep_row (mid := w.heap.size + 2) ((below_mod BR.out P3.out (by omega) (by omega)).setCell (p := ⟨w1.heap.size, 0, none⟩) (by show _ ≤ w1.heap.size; omega) (.int .i64 F)) (P1.out.keep m0 (Or.inl (Nat.le_refl _))) (by rw [List.length_map]; exact P2.out.set _ _)
                (((Mod.set _ (p := ⟨w.heap.size + 1, 0, none⟩) (by simp) (by simp) (.int .i64 F)).trans (Mod.set _ (p := ⟨w.heap.size + 1, 1, none⟩) (by simp) (by simp) (.slice A1 zs.length c1)))) (by omega) (by omega) (by simp; omega)
              have HK := Lib.hid hk
              clear hk m0
              go_wp2
              refine bodyPost_ret (v := .agg #[.int .i64 F, .slice A1 zs.length c1]) (by simp [results, Try.results25, go_sem, u20, u21]) rfl ⟨A1, c1, by rw [HT.out]; simp, by rw [HT.out]; exact HK.out⟩
        · have HT := Lib.hid (hq1.out hG)
          have hG1 : decide (G < 2) = true := by simp; omega
          clear hq1 hq2
          have hk := LinI.keep_row (mid := w.heap.size + 2) BR.out RR.out FR.out ((Mod.set wr (p := ⟨w.heap.size + 1, 0, none⟩) (by simp) (by simp) (.int .i64 z)).trans (Mod.set _ (p := ⟨w.heap.size + 1, 1, none⟩) (by simp) (by simp) (.slice A1 zs.length c1))) (by omega) (by omega) (by have := HB.out.size; omega)
          have HK := Lib.hid hk
          clear hk
          go_wp2
          exact bodyPost_ret (v := .agg #[.int .i64 z, .slice A1 zs.length c1]) (by simp [results, Try.results25, go_sem, n20, n21]) rfl ⟨A1, c1, by rw [HT.out], by rw [HT.out]; exact HK.out⟩
  · have HT := Lib.hid (hq1.out (fun h => hv h.1))
    simp only [Bool.not_eq_true] at hv
    rw [hv] at VL
    clear hq1 hq2 hv
    go_enter Try.func25, Try.ntmps25
    go_wp2_with fail
    refine (CP.out _ BB.out).mono ?_
    rintro e w1 ⟨A1, c1, rfl, r1, f1, b1⟩
    have hs1 := b1.size
    simp only [World.size_alloc] at hs1 r1
    have hz1 : w.heap.size + 1 < w1.heap.size := by omega
    have hz1' : w.heap.size < w1.heap.size := by omega
    have B1 := Lib.hid (BB.out.trans (b1.mono BB.out.size))
    have L1 := Lib.hid ((((Lvar.new w _ _).alloc _).below b1 : Lvar w1 w.heap.size #[Value.int IntKind.i64 z, Value.slice A zs.length c]))
    have L2 := Lib.hid ((Lvar.new (w.alloc (Obj.cells #[Value.int IntKind.i64 z, Value.slice A zs.length c] 26)) _ _).below b1 : Lvar w1 (w.alloc (Obj.cells #[Value.int IntKind.i64 z, Value.slice A zs.length c] 26)).heap.size #[Value.int IntKind.i64 0, Value.slice none 0 0])
    simp only [World.size_alloc] at L2
    clear b1
    have l1 := L1.out.cell 0 _ rfl
    have l1' := L1.out.cell 1 _ rfl
    go_wp2_with fail
    refine (VL.out _ (B1.out.alloc B1.out.size _)).mono ?_
    rintro e w2 ⟨rfl, b2⟩
    have d2 : Below w1.heap.size w1 w2 := ((Below.refl _ _).alloc (Nat.le_refl _) _).trans (b2.mono (by simp))
    have hs2 := b2.size
    simp only [World.size_alloc] at hs2
    have M2 := Lib.hid (L2.out.below d2)
    have M3 := Lib.hid ((Lvar.new w1 _ _).below b2 : Lvar w2 w1.heap.size #[Value.int IntKind.i64 z, Value.slice A1 zs.length c1])
    have hk := LinI.keep_row (mid := w.heap.size + 2) (B1.out.trans (d2.mono B1.out.size)) (r1.below d2) (f1.below r1 (by rw [IntK.iv_len]; exact Nat.le_refl _) d2) ((Mod.set w2 (p := ⟨w.heap.size + 1, 0, none⟩) (by simp) (by simp) (.int .i64 z)).trans (Mod.set _ (p := ⟨w.heap.size + 1, 1, none⟩) (by simp) (by simp) (.slice A1 zs.length c1))) (by omega) (by omega) (by omega)
    have HK := Lib.hid hk
    clear l1 l1' L1 L2 b2 d2 r1 f1 B1 VL CP hk
    have u20 := M2.out.cell 0 (.int .i64 0) rfl
    have u21 := M2.out.cell 1 (.slice none 0 0) rfl
    have u30 := M3.out.cell 0 (.int .i64 z) rfl
    have u31 := M3.out.cell 1 (.slice A1 zs.length c1) rfl
    have p20 := M2.out.frozen 0
    have p21 := M2.out.frozen 1
    go_wp2
    exact bodyPost_ret (v := .agg #[.int .i64 z, .slice A1 zs.length c1]) (by simp [results, Try.results25, go_sem, u20, u21]) rfl ⟨A1, c1, by rw [HT.out], by rw [HT.out]; exact HK.out⟩
end LinS
end Go.Proofs.Ytjhjbnfdnecidaa
