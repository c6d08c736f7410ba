import Derived.Test.YtnbgmhlhbcoicaaDraw4
import Derived.Deep.RegionLawGrows
import Derived.Deep.AppendLies
/-
  The draws of the fourth chapter: a linear expression that may be out of range, or too long.
-/
namespace Go.Proofs.Ytnbgmhlhbcoicaa
open Go.RowKit
namespace Draw
open RowK

def I64 (x : Int) : Prop := -9223372036854775808 ≤ x ∧ x ≤ 9223372036854775807
def Any4 (z : Int) (zs : List Int) (_ : Nat) : Prop := I64 z ∧ zs.length ≤ 9 ∧ ∀ x ∈ zs, I64 x

/-- The result is laid into its block. -/
theorem some_fin {w wr : World} {g n c lo hi d : Nat} {A B : Option Addr} {z : Int} {zs : List Int} {P : Int → List Int → Nat → Prop} (hg : g < w.heap.size) (hK : Kept w g A n c wr) (hO : IntK.Own lo hi wr B zs) (h1 : w.heap.size + 1 ≤ lo) (h2 : hi ≤ wr.heap.size) (hP : P z zs d) (hd : zs.length ≤ d) :
    SomeLin w g A n c P (.returned (.agg #[.int .i64 z, .slice B zs.length d])) ((wr.setCell ⟨w.heap.size, 0, none⟩ (.int .i64 z)).setCell ⟨w.heap.size, 1, none⟩ (.slice B zs.length d)) := by
  have mm : Mod w.heap.size (w.heap.size + 1) wr ((wr.setCell ⟨w.heap.size, 0, none⟩ (.int .i64 z)).setCell ⟨w.heap.size, 1, none⟩ (.slice B zs.length d)) := (Mod.set _ (p := ⟨w.heap.size, 0, none⟩) (Nat.le_refl _) (Nat.lt_succ_self _) _).trans (Mod.set _ (p := ⟨w.heap.size, 1, none⟩) (Nat.le_refl _) (Nat.lt_succ_self _) _)
  have hO' := hO.keep mm (Or.inr h1)
  exact ⟨z, zs, B, d, rfl, hP, hd, ⟨hO'.1.wider (by omega) (Nat.le_trans h2 mm.size) (Nat.le_refl _), hO'.2⟩, (hK.set hg (p := ⟨w.heap.size, 0, none⟩) (Nat.le_refl _) _).set hg (p := ⟨w.heap.size, 1, none⟩) (Nat.le_refl _) _⟩

theorem rows_at {lo hi : Nat} {w : World} {B : Option Addr} {vs : List Value} {b : Addr} (h : Row lo hi w B vs) (e : B = some b) (j : Nat) (u : Value) (hu : vs[j]? = some u) : w.cell? (b.add j) = some u := by
  obtain ⟨b', o', e', _, hc⟩ := h (fun e => by rw [e] at hu; simp at hu)
  rw [e] at e'
  injection e' with e'
  subst e'
  rw [show (⟨b', o', none⟩ : Addr).add j = ⟨b', o' + j, none⟩ by unfold Addr.add; split <;> simp_all]
  exact hc j u hu
theorem Kept.below {w w' w2 : World} {g n c : Nat} {A : Option Addr} (h : Kept w g A n c w') (hb : Below w'.heap.size w' w2) : Kept w g A n c w2 := ⟨h.1.keep hb, h.2.trans (Mod.of_below hb)⟩

set_option maxHeartbeats 2000000 in
set_option maxRecDepth 100000 in
theorem bent4 (g : Nat) (A : Option Addr) (n c : Nat) (w : World) (hC : Cur w g A n c) :
    Calls Try.prog 70 #[.pointer (some ⟨g, 0, none⟩)] w (SomeLin w g A n c Any4) := by
  have HC := Lib.hid (kept_refl hC)
  have hgl := hC.lt
  go_enter Try.func70, Try.ntmps70
  go_wp2_with fail
  refine (below g A n c 4 (by omega) _ (HC.out.alloc _).1).mono ?_
  rintro e w1 ⟨x, hx0, hx1, _, rfl, hL⟩
  have hx4 := hx1 (by omega)
  obtain ⟨m, rfl⟩ := Int.eq_ofNat_of_zero_le hx0
  have m1 := hL.kept.2
  have K1 := Lib.hid ((HC.out.alloc _).trans hL.kept)
  have R1 := Lib.hid ((Lvar.new w #[Value.int IntKind.i64 0, Value.slice none 0 0] 29).keep m1 (by omega))
  have hs1 : w.heap.size + 1 ≤ w1.heap.size := R1.out.lt
  clear hL m1 hx1
  go_wp2_with fail
  refine (draw4 g A n c m (by omega) _ K1.out.1).mono ?_
  rintro e w2 ⟨z, zs, B, d, rfl, ⟨hz, hl, hdm, hr⟩, hd, hO, hK⟩
  have m2 := hK.2
  have K2 := Lib.hid (K1.out.trans hK)
  have R2 := Lib.hid (R1.out.keep m2 (by omega))
  have O2 := Lib.hid hO
  have hs2 := m2.size
  have HL := Lib.hid hl
  have HR := Lib.hid hr
  have HD := Lib.hid hdm
  clear hO hK m2 hl hr hdm K1 R1
  go_wp2_with fail
  refine (below g A n c 10 (by omega) _ (K2.out.alloc _).1).mono ?_
  rintro e w3 ⟨y, hy0, hy1, _, rfl, hL⟩
  have m3 := hL.kept.2
  have hs3 : w2.heap.size + 1 ≤ w3.heap.size := by have := m3.size; simpa using this
  have K3 := Lib.hid ((K2.out.alloc _).trans hL.kept)
  have V3 := Lib.hid ((Lvar.new w2 #[Value.int IntKind.i64 z, Value.slice B zs.length d] 29).keep m3 (by omega))
  have R3 := Lib.hid ((R2.out.alloc _).keep m3 (by omega))
  have O3 := Lib.hid ((O2.out.below ((Below.refl _ _).alloc (Nat.le_refl _) _)).keep m3 (by omega))
  clear hL m3 hy1 K2 R2 O2
  have v30 := V3.out.cell 0 _ rfl
  have v31 := V3.out.cell 1 _ rfl
  have f30 := V3.out.frozen 0
  have f31 := V3.out.frozen 1
  have r30 := R3.out.cell 0 _ rfl
  have r31 := R3.out.cell 1 _ rfl
  have q30 := R3.out.frozen 0
  have q31 := R3.out.frozen 1
  have v3l := V3.out.lt
  have r3l := R3.out.lt
  by_cases y0 : y = 0
  · subst y0
    go_wp2_with fail
    refine (any3 g A n c _ K3.out.1).mono ?_
    rintro e w4 ⟨t, ht, rfl, hL⟩
    have ht := threes_range t ht
    have m4 := hL.kept.2
    have K4 := Lib.hid (K3.out.trans hL.kept)
    have V4 := Lib.hid (V3.out.keep m4 (by omega))
    have R4 := Lib.hid (R3.out.keep m4 (by omega))
    have O4 := Lib.hid (O3.out.keep m4 (by omega))
    have hs4 := m4.size
    clear hL m4 v30 v31 f30 f31 r30 r31 q30 q31
    have v40 := V4.out.cell 0 _ rfl
    have v41 := V4.out.cell 1 _ rfl
    have f40 := V4.out.frozen 0
    have r40 := R4.out.cell 0 _ rfl
    have r41 := R4.out.cell 1 _ rfl
    have q40 := R4.out.frozen 0
    have q41 := R4.out.frozen 1
    have hne := show w2.heap.size ≠ w.heap.size by omega
    have hne' := show w.heap.size ≠ w2.heap.size by omega
    have mv : Mod w2.heap.size (w2.heap.size + 1) w4 (w4.setCell ⟨w2.heap.size, 0, none⟩ (.int .i64 t)) := Mod.set w4 (p := ⟨w2.heap.size, 0, none⟩) (Nat.le_refl _) (Nat.lt_succ_self _) _
    have F := Lib.hid (some_fin (P := Any4) (z := t) hgl (K4.out.set hgl (p := ⟨w2.heap.size, 0, none⟩) (by show w.heap.size ≤ w2.heap.size; omega) (.int .i64 t)) (O4.out.keep mv (Or.inl (Nat.le_refl _))) (by omega) (by simp; omega) ⟨ht, by rw [HL.out]; omega, fun x hx => ⟨by have := HR.out x hx; omega, by have := HR.out x hx; omega⟩⟩ hd)
    clear mv
    go_wp2
    exact bodyPost_ret (v := .agg #[.int .i64 t, .slice B zs.length d]) (by simp [results, Try.results70, go_sem, r40, r41, hne, hne']) rfl F.out
  · have y0' : (y == 0) = false := by simpa using y0
    by_cases y1 : y = 1
    · subst y1
      obtain ⟨i0, hi0, hz0, hz1, hz2⟩ := info_parts IntK.intInfo
      have HI := Lib.hid hi0
      have HZ0 := Lib.hid hz0
      have HZ1 := Lib.hid hz1
      have HZ2 := Lib.hid hz2
      have hu := Lib.hid Try.underlying27
      have hnone : B = none → zs.length = 0 ∧ d = 0 := fun e => by
        have h0 : zs.length = 0 := by
          rcases Nat.eq_zero_or_pos zs.length with h | h
          · exact h
          · obtain ⟨b, o, e2, _⟩ := IntK.at_ O3.out.1 h
            rw [e] at e2; cases e2
        exact ⟨h0, by rw [HD.out, ← HL.out, h0]⟩
      have HN := Lib.hid hnone
      have hfull : d < zs.length + 1 := by rw [HD.out, HL.out]; omega
      have hl9 : zs.length ≤ 3 := by rw [HL.out]; omega
      clear hi0 hz0 hz1 hz2 hnone y0
      go_wp2_with fail
      go_region_law (first
        | (refine step_append_grows rfl _ _ _ rfl 3 i0 (.int .i64 0) 1 8 hu.out HI.out HZ0.out HZ1.out HZ2.out rfl (by decide) B zs.length d (IntK.iv zs) rfl HN.out (by simp [IntK.iv]) (fun b e j u hu => rows_at (O4.below ((Below.refl _ _).alloc (Nat.le_refl _) _)).1 e j u hu) ⟨w4.heap.size, 0, none⟩ 1 1 [.int .i64 t] rfl rfl (World.news_of_block (cs := #[.int .i64 t]) (heap_alloc_new w4 _)) (by simp [Value.oneCell']) (by omega) (by unfold maxLen; omega) (by omega) ?_; intro v5 w5 hown5 hgrow5; (obtain ⟨A5, c5, rfl, r5, f5, hc5, _⟩ := of_own hown5); (have b5 : Below (w4.alloc (Obj.cells #[.int .i64 t] 3)).heap.size (w4.alloc (Obj.cells #[.int .i64 t] 3)) w5 := ⟨hgrow5.os, hgrow5.tape, hgrow5.output, hgrow5.size, fun i hi => hgrow5.block i hi (by simp)⟩); (have V5 := (V4.alloc (Obj.cells #[.int .i64 t] 3)).below b5); (have R5 := (R4.alloc (Obj.cells #[.int .i64 t] 3)).below b5); (have K5 := (K4.alloc (Obj.cells #[.int .i64 t] 3)).below b5); (have v50 := V5.cell 0 _ rfl); (have v51 := V5.cell 1 _ rfl); (have p51 := V5.frozen 1); (have r50 := R5.cell 0 _ rfl); (have r51 := R5.cell 1 _ rfl); (have q50 := R5.frozen 0); (have q51 := R5.frozen 1))
        | (go_simp; go_at_call 81; refine (Calls.mono (any3 g A n c _ (K3.out.drew).1)) ?_; rintro e w4 ⟨t, ht, rfl, hL⟩; (have ht := threes_range t ht); (have m4 := hL.kept.2); (have V4 : Lvar w4 w2.heap.size #[Value.int IntKind.i64 z, Value.slice B zs.length d] := Lvar.keep (w := w3.drew) V3.out m4 (by omega)); (have R4 : Lvar w4 w.heap.size #[Value.int IntKind.i64 0, Value.slice none 0 0] := Lvar.keep (w := w3.drew) R3.out m4 (by omega)); (have O4 : IntK.Own w1.heap.size w2.heap.size w4 B zs := IntK.Own.keep (w := w3.drew) O3.out m4 (by omega)); (have K4 := (K3.out.drew).trans hL.kept); (have v41 := V4.cell 1 _ rfl); (have v4l := V4.lt)))
      all_goals
        have e5 : (zs ++ [t]).length = zs.length + 1 := by simp
        have hs4 : w3.heap.size ≤ w4.heap.size := m4.size
        have hs5 : w4.heap.size + 1 ≤ w5.heap.size := by have := b5.size; simpa using this
        have O5 : IntK.Own (w4.heap.size + 1) w5.heap.size w5 A5 (zs ++ [t]) := ⟨by simpa [IntK.iv] using r5, by simpa [IntK.iv] using f5⟩
        have mv : Mod w2.heap.size (w2.heap.size + 1) w5 (w5.setCell ⟨w2.heap.size, 1, none⟩ (.slice A5 (zs.length + 1) c5)) := Mod.set w5 (p := ⟨w2.heap.size, 1, none⟩) (Nat.le_refl _) (Nat.lt_succ_self _) _
        have F := some_fin (P := Any4) (z := z) (d := c5) hgl (K5.set hgl (p := ⟨w2.heap.size, 1, none⟩) (by show w.heap.size ≤ w2.heap.size; omega) (.slice A5 (zs.length + 1) c5)) (O5.keep mv (Or.inr (by omega))) (by omega) (by simp) ⟨⟨by omega, by omega⟩, by rw [e5]; omega, fun x hx => by
          rcases List.mem_append.1 hx with h | h
          · have := HR.out x h; exact ⟨by omega, by omega⟩
          · rw [List.mem_singleton.1 h]; exact ht⟩ (by rw [e5]; exact hc5)
        rw [e5] at F
        have HF := Lib.hid F
        have hne := show w2.heap.size ≠ w.heap.size by omega
        have hne' := show w.heap.size ≠ w2.heap.size by omega
        clear F mv O5 e5 hown5 hgrow5 r5 f5 b5
        go_wp2
        exact bodyPost_ret (v := .agg #[.int .i64 z, .slice A5 (zs.length + 1) c5]) (by simp [results, Try.results70, go_sem, r50, r51, hne, hne']) rfl HF.out
    · have y1' : (y == 1) = false := by simpa using y1
      by_cases y2 : y = 2
      · subst y2
        have hmk9 : ∀ u : World, (Instr.makeSlice 27 (.int .i64 9) (.int .i64 9)).run Try.prog u = .ok (.slice (some ⟨u.heap.size, 0, none⟩) 9 9) (u.alloc (.cells (madeCells #[.int .i64 0] 9) 3)) := fun u => by simpa using IntK.run_mk 9 (by omega) u
        clear y0 y1
        go_wp2
        have L9 : Lvar ((((w3.setCell { block := w2.heap.size, off := 1 } (Value.slice (some { block := w3.heap.size, off := 0 }) 9 9)).setCell { block := w.heap.size, off := 0 } (Value.int IntKind.i64 z)).setCell { block := w.heap.size, off := 1 } (Value.slice (some { block := w3.heap.size, off := 0 }) 9 9)).alloc (Obj.cells (madeCells #[Value.int IntKind.i64 0] 9) 3)) w3.heap.size (madeCells #[Value.int IntKind.i64 0] 9) := by
          have := Lvar.new (((w3.setCell { block := w2.heap.size, off := 1 } (Value.slice (some { block := w3.heap.size, off := 0 }) 9 9)).setCell { block := w.heap.size, off := 0 } (Value.int IntKind.i64 z)).setCell { block := w.heap.size, off := 1 } (Value.slice (some { block := w3.heap.size, off := 0 }) 9 9)) (madeCells #[Value.int IntKind.i64 0] 9) 3
          simpa using this
        have hr9 := L9.row
        rw [toList_madeCells_one, size_madeCells] at hr9
        have hK9 := (((K3.out.set hgl (p := ⟨w2.heap.size, 1, none⟩) (by show w.heap.size ≤ w2.heap.size; omega) (Value.slice (some { block := w3.heap.size, off := 0 }) 9 9)).set hgl (p := ⟨w.heap.size, 0, none⟩) (Nat.le_refl _) (Value.int IntKind.i64 z)).set hgl (p := ⟨w.heap.size, 1, none⟩) (Nat.le_refl _) (Value.slice (some { block := w3.heap.size, off := 0 }) 9 9)).alloc (Obj.cells (madeCells #[Value.int IntKind.i64 0] 9) 3)
        refine bodyPost_ret (v := .agg #[.int .i64 z, .slice (some ⟨w3.heap.size, 0, none⟩) 9 9]) (by simp [results, Try.results70, go_sem, r30, r31, r3l]) rfl ⟨z, List.replicate 9 0, some ⟨w3.heap.size, 0, none⟩, 9, by simp, ⟨⟨by omega, by omega⟩, by simp, fun x hx => by rw [List.eq_of_mem_replicate hx]; exact ⟨by omega, by omega⟩⟩, by simp, ⟨?_, ?_⟩, hK9⟩
        · rw [show IntK.iv (List.replicate 9 0) = List.replicate 9 (.int .i64 0) by simp [IntK.iv]]
          exact hr9.1.wider (by omega) (by simp) (Nat.le_refl _)
        · rw [List.length_replicate]; exact hr9.2
      · have y2' : (y == 2) = false := by simpa using y2
        have F := Lib.hid (some_fin (P := Any4) (z := z) hgl K3.out O3.out (by omega) (by omega) ⟨⟨by omega, by omega⟩, by rw [HL.out]; omega, fun x hx => ⟨by have := HR.out x hx; omega, by have := HR.out x hx; omega⟩⟩ hd)
        clear y0 y1 y2
        go_wp2
        exact bodyPost_ret (v := .agg #[.int .i64 z, .slice B zs.length d]) (by simp [results, Try.results70, go_sem, r30, r31]) rfl F.out
end Draw
end Go.Proofs.Ytnbgmhlhbcoicaa
