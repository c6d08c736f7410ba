import Derived.Test.YtnbgmhlhbcoicaaDraw7b
/-
  The draws of the seventh chapter: a system of two rows in one variable.
-/
namespace Go.Proofs.Ytnbgmhlhbcoicaa
open Go.RowKit
namespace Draw
open RowK Mem LinM

theorem two_rows {w : World} {b1 b2 b3 : Nat} {z1 z2 x1 x2 : Int} (h1 : Lvar w b1 #[.int .i64 x1]) (h2 : Lvar w b2 #[.int .i64 x2]) (h3 : Lvar w b3 #[.int .i64 z1, .slice (some ⟨b1, 0, none⟩) 1 1, .int .i64 z2, .slice (some ⟨b2, 0, none⟩) 1 1]) :
    SysK.Arg w (some ⟨b3, 0, none⟩) ([(z1, [x1]), (z2, [x2])] : List (Int × List Int)).length 2 [(z1, [x1]), (z2, [x2])] := by
  have r1 : Row b1 (b1 + 1) w (some ⟨b1, 0, none⟩) (IntK.iv [x1]) := h1.row.1
  have r2 : Row b2 (b2 + 1) w (some ⟨b2, 0, none⟩) (IntK.iv [x2]) := h2.row.1
  obtain ⟨f1, g1, _⟩ := lin_close (q := false) (z := z1) (c := 1) r1 (fun h => by cases h) (Nat.le_refl _)
  obtain ⟨f2, g2, _⟩ := lin_close (q := false) (z := z2) (c := 1) r2 (fun h => by cases h) (Nat.le_refl _)
  refine ⟨false, _, _, 2, rfl, Nat.le_refl _, Or.inr ⟨b3, 0, [(f1, [.int .i64 z1, .slice (some ⟨b1, 0, none⟩) 1 1], (z1, [x1])), (f2, [.int .i64 z2, .slice (some ⟨b2, 0, none⟩) 1 1], (z2, [x2]))], rfl, rfl, by simp, rfl, h3.lt, fun e he => ?_, h3.row.1, fun h => by cases h⟩⟩
  rcases List.mem_cons.1 he with rfl | he
  · exact g1
  · rcases List.mem_cons.1 he with rfl | he
    · exact g2
    · cases he

set_option maxHeartbeats 2000000 in
set_option maxRecDepth 100000 in
theorem drawCheckEmpty (A : Option Addr) (n c : Nat) (hn : n ≤ 1048576) (w : World) (hc : Code w A n) :
    Calls Try.prog 24 #[.slice A n c] w (SysInts w) := by
  have b0 : Below w.heap.size w (w.alloc (Obj.cells #[Value.int IntKind.i64 0, Value.slice none 0 0] 26)) := (Below.refl _ _).alloc (Nat.le_refl _) _
  have B0 := Lib.hid b0
  have La := Lib.hid (Lvar.new w #[Value.int IntKind.i64 0, Value.slice none 0 0] 26)
  clear b0
  go_enter Try.func24, Try.ntmps24
  go_wp2_with fail
  refine (new A n c hn _ (hc.keep B0.out)).mono ?_
  rintro e w1 ⟨g, rfl, hC, hg, hb⟩
  simp only [World.size_alloc] at hg
  have B1 := Lib.hid (B0.out.trans (hb.mono B0.out.size))
  have La1 := Lib.hid (La.out.below hb)
  have HC := Lib.hid (kept_refl hC)
  have hgl := hC.lt
  clear hb La
  go_wp2_with fail
  refine (below g A n c 5 (by omega) _ hC).mono ?_
  rintro e w2 ⟨x, hx0, hx1, _, rfl, hL⟩
  have hx2 := hx1 (by omega)
  have m2 := hL.kept.2
  have K2 := Lib.hid (HC.out.trans hL.kept)
  have La2 := Lib.hid (La1.out.keep m2 (by omega))
  have hs2 := m2.size
  have hwx : IntKind.i64.wrap (x - 3) = x - 3 := IntWalk.i64_in _ (by omega)
  have K2a := Lib.hid (K2.out.alloc (.cells #[.int .i64 1] 3))
  have La2a := Lib.hid (La2.out.alloc (.cells #[.int .i64 1] 3))
  have P2 := Lib.hid (Lvar.new w2 #[.int .i64 1] 3)
  clear hL m2 hx1 hC HC
  go_wp2_with fail
  refine (below g A n c 5 (by omega) _ K2a.out.1).mono ?_
  rintro e w3 ⟨y, hy0, hy1, _, rfl, hL⟩
  have hy2 := hy1 (by omega)
  have m3 := hL.kept.2
  have K3 := Lib.hid (K2a.out.trans hL.kept)
  have La3 := Lib.hid (La2a.out.keep m3 (by omega))
  have P3 := Lib.hid (P2.out.keep m3 (by omega))
  have hs3 : w2.heap.size + 1 ≤ w3.heap.size := by have := m3.size; simpa using this
  have hwy : IntKind.i64.wrap (y - 3) = y - 3 := IntWalk.i64_in _ (by omega)
  have K4 := Lib.hid (((K3.out.alloc (.cells #[.int .i64 (-1)] 3)).alloc (.cells #[.int .i64 (x - 3), .slice (some ⟨w2.heap.size, 0, none⟩) 1 1, .int .i64 (y - 3), .slice (some ⟨w3.heap.size, 0, none⟩) 1 1] 29)).alloc (.cells #[.int .i64 1, .slice (some ⟨w3.heap.size + 1, 0, none⟩) 2 2] 26))
  have La4 := Lib.hid (((La3.out.alloc (.cells #[.int .i64 (-1)] 3)).alloc (.cells #[.int .i64 (x - 3), .slice (some ⟨w2.heap.size, 0, none⟩) 1 1, .int .i64 (y - 3), .slice (some ⟨w3.heap.size, 0, none⟩) 1 1] 29)).alloc (.cells #[.int .i64 1, .slice (some ⟨w3.heap.size + 1, 0, none⟩) 2 2] 26))
  have P4 := Lib.hid (((P3.out.alloc (.cells #[.int .i64 (-1)] 3)).alloc (.cells #[.int .i64 (x - 3), .slice (some ⟨w2.heap.size, 0, none⟩) 1 1, .int .i64 (y - 3), .slice (some ⟨w3.heap.size, 0, none⟩) 1 1] 29)).alloc (.cells #[.int .i64 1, .slice (some ⟨w3.heap.size + 1, 0, none⟩) 2 2] 26))
  have Q4 := Lib.hid (((Lvar.new w3 #[.int .i64 (-1)] 3).alloc (.cells #[.int .i64 (x - 3), .slice (some ⟨w2.heap.size, 0, none⟩) 1 1, .int .i64 (y - 3), .slice (some ⟨w3.heap.size, 0, none⟩) 1 1] 29)).alloc (.cells #[.int .i64 1, .slice (some ⟨w3.heap.size + 1, 0, none⟩) 2 2] 26))
  have r4 := (new1 w3 (.cells #[.int .i64 (-1)] 3) #[.int .i64 (x - 3), .slice (some ⟨w2.heap.size, 0, none⟩) 1 1, .int .i64 (y - 3), .slice (some ⟨w3.heap.size, 0, none⟩) 1 1] 29).alloc (.cells #[.int .i64 1, .slice (some ⟨w3.heap.size + 1, 0, none⟩) 2 2] 26)
  have R4 := Lib.hid r4
  have U4 := Lib.hid (new2 w3 (.cells #[.int .i64 (-1)] 3) (.cells #[.int .i64 (x - 3), .slice (some ⟨w2.heap.size, 0, none⟩) 1 1, .int .i64 (y - 3), .slice (some ⟨w3.heap.size, 0, none⟩) 1 1] 29) #[.int .i64 1, .slice (some ⟨w3.heap.size + 1, 0, none⟩) 2 2] 26)
  have hs4 : (((w3.alloc (.cells #[.int .i64 (-1)] 3)).alloc (.cells #[.int .i64 (x - 3), .slice (some ⟨w2.heap.size, 0, none⟩) 1 1, .int .i64 (y - 3), .slice (some ⟨w3.heap.size, 0, none⟩) 1 1] 29)).alloc (.cells #[.int .i64 1, .slice (some ⟨w3.heap.size + 1, 0, none⟩) 2 2] 26)).heap.size = w3.heap.size + 3 := by simp
  have HS4 := Lib.hid hs4
  clear hL m3 hy1 K2 K2a La2 La2a P2 P3 La3 K3 r4 hs4 La1
  go_upto_region 3 with fail
  generalize (((w3.alloc (.cells #[.int .i64 (-1)] 3)).alloc (.cells #[.int .i64 (x - 3), .slice (some ⟨w2.heap.size, 0, none⟩) 1 1, .int .i64 (y - 3), .slice (some ⟨w3.heap.size, 0, none⟩) 1 1] 29)).alloc (.cells #[.int .i64 1, .slice (some ⟨w3.heap.size + 1, 0, none⟩) 2 2] 26)) = w4 at *
  have hs4 := HS4.out
  have u0 := U4.out.cell 0 (.int .i64 1) rfl
  have u1 := U4.out.cell 1 (.slice (some ⟨w3.heap.size + 1, 0, none⟩) 2 2) rfl
  have MU := Lib.hid (mult7 g A n c 2 (by omega) w4.drew (K4.out.drew).1)
  go_region_held3 (fun W => W.cell? ⟨w3.heap.size + 1 + 1, 0, none⟩ = some (.int .i64 1) ∧ W.cell? ⟨w3.heap.size + 1 + 1, 1, none⟩ = some (.slice (some ⟨w3.heap.size + 1, 0, none⟩) 2 2))
    (first | with_reducible exact ⟨k50, k51⟩ | with_reducible exact ⟨kA0, kA1⟩ | go_keep)
    ((go_at_call 45; refine (Calls.mono MU.out) ?_; rintro e w5 ⟨C, f, ms, rfl, hlm, hO5, hK5⟩; (have HLM := Lib.hid hlm); clear hlm; (have m5 := hK5.2); (have V5 : Lvar w5 (w3.heap.size + 1 + 1) #[Value.int IntKind.i64 1, Value.slice (some ⟨w3.heap.size + 1, 0, none⟩) 2 2] := Lvar.keep (w := w4.drew) U4.out m5 (by omega)); (have La5 : Lvar w5 w.heap.size #[Value.int IntKind.i64 0, Value.slice none 0 0] := Lvar.keep (w := w4.drew) La4.out m5 (by omega)); (have a0 := La5.cell 0 (.int .i64 0) rfl); (have a1 := La5.cell 1 (.slice none 0 0) rfl); (have e0 := La5.frozen 0); (have e1 := La5.frozen 1); (have VA := other01 (u := .int .i64 1) (v := .slice (some ⟨w3.heap.size + 1, 0, none⟩) 2 2) (b := w.heap.size) V5 (by omega)); (have k50 := V5.cell 0 (.int .i64 1) rfl); (have k51 := V5.cell 1 (.slice (some ⟨w3.heap.size + 1, 0, none⟩) 2 2) rfl); (have kA0 := VA.cell 0 (.int .i64 1) rfl); (have kA1 := VA.cell 1 (.slice (some ⟨w3.heap.size + 1, 0, none⟩) 2 2) rfl)))
  all_goals
    have p5 : Lvar w5 w2.heap.size #[.int .i64 1] := Lvar.keep (w := w4.drew) P4.out m5 (by omega)
    have q5 : Lvar w5 w3.heap.size #[.int .i64 (-1)] := Lvar.keep (w := w4.drew) Q4.out m5 (by omega)
    have r5 : Lvar w5 (w3.heap.size + 1) #[.int .i64 (x - 3), .slice (some ⟨w2.heap.size, 0, none⟩) 1 1, .int .i64 (y - 3), .slice (some ⟨w3.heap.size, 0, none⟩) 1 1] := Lvar.keep (w := w4.drew) R4.out m5 (by omega)
    have hbk : Below w.heap.size w w5 := kept_new B1.out (by omega) ((K4.out.drew).trans hK5)
    have hs5 : w4.heap.size ≤ w5.heap.size := m5.size
    have mm : Mod w.heap.size (w.heap.size + 1) w5 ((w5.setCell ⟨w.heap.size, 0, none⟩ (.int .i64 1)).setCell ⟨w.heap.size, 1, none⟩ (.slice (some ⟨w3.heap.size + 1, 0, none⟩) 2 2)) := (Mod.set _ (p := ⟨w.heap.size, 0, none⟩) (Nat.le_refl _) (Nat.lt_succ_self _) _).trans (Mod.set _ (p := ⟨w.heap.size, 1, none⟩) (Nat.le_refl _) (Nat.lt_succ_self _) _)
    have H1 := Lib.hid (two_rows (p5.keep mm (by omega)) (q5.keep mm (by omega)) (r5.keep mm (by omega)))
    have H2 := Lib.hid (Row.keep hO5.1 mm (Or.inr (by show w.heap.size + 1 ≤ w4.heap.size; omega)))
    have H3 := Lib.hid (below_mod hbk mm (Nat.le_refl _) hbk.size)
    clear m5 V5 hK5 La5 VA k50 k51 kA0 kA1 mm hbk hO5 p5 q5 r5
    go_wp2
    refine bodyPost_ret (v := .tuple #[.agg #[.int .i64 1, .slice (some ⟨w3.heap.size + 1, 0, none⟩) 2 2], .slice C ms.length f]) (by simp [results, Try.results24, go_sem, a0, a1]) rfl ⟨1, some ⟨w3.heap.size + 1, 0, none⟩, 2, [(x - 3, [1]), (y - 3, [-1])], C, f, ms, _, _, rfl, ⟨by omega, by simp, by simp⟩, by have := HLM.out; omega, H1.out, H2.out, H3.out⟩
end Draw
end Go.Proofs.Ytnbgmhlhbcoicaa
