import Derived.Test.YtnbgmhlhbcoicaaDraw7
import Derived.Test.YtnbgmhlhbcoicaaSysCopy
import Derived.IntWalk
/-
  The draws of the seventh chapter: a system and multipliers.
-/
namespace Go.Proofs.Ytnbgmhlhbcoicaa
open Go.RowKit
namespace Draw
open RowK Mem LinM

/-- A system and some numbers. -/
def SysInts (w : World) (e : Ending) (w' : World) : Prop :=
  ∃ (N : Int) (B : Option Addr) (d : Nat) (xs : List (Int × List Int)) (C : Option Addr) (f : Nat) (ms : List Int) (lo hi : Nat), e = .returned (.tuple #[.agg #[.int .i64 N, .slice B xs.length d], .slice C ms.length f]) ∧ Any6 N xs ∧ ms.length ≤ 25 ∧ SysK.Arg w' B xs.length d xs ∧ Row lo hi w' C (IntK.iv ms) ∧ Below w.heap.size w w'

set_option maxHeartbeats 2000000 in
set_option maxRecDepth 100000 in
theorem drawCombineRows (A : Option Addr) (n c : Nat) (hn : n ≤ 1048576) (w : World) (hc : Code w A n) :
    Calls Try.prog 18 #[.slice A n c] w (SysInts w) := by
  have b0 : Below w.heap.size w (w.alloc (Obj.cells #[Value.int IntKind.i64 0, Value.slice none 0 0] 26)) := (Below.refl _ _).alloc (Nat.le_refl _) _
  have B0 := Lib.hid b0
  have La := Lib.hid (Lvar.new w #[Value.int IntKind.i64 0, Value.slice none 0 0] 26)
  clear b0
  go_enter Try.func18, Try.ntmps18
  go_wp2_with fail
  refine (new A n c hn _ (hc.keep B0.out)).mono ?_
  rintro e w1 ⟨g, rfl, hC, hg, hb⟩
  simp only [World.size_alloc] at hg
  have B1 := Lib.hid (B0.out.trans (hb.mono B0.out.size))
  have La1 := Lib.hid (La.out.below hb)
  have hgl := hC.lt
  clear hb La
  go_wp2_with fail
  refine (bent6 g A n c _ hC).mono ?_
  rintro e w2 ⟨N, v, xs, rfl, hP, hO, hK⟩
  obtain ⟨B, d, rfl, hOS⟩ := SysS.own_slice (lo := w1.heap.size) hO (fun b h => h)
  have K2 := Lib.hid hK
  have m2 := hK.2
  have La2 := Lib.hid (La1.out.keep m2 (by omega))
  have O2 := Lib.hid hOS
  have hs2 := m2.size
  have HP := Lib.hid hP
  have hx24 := hP.2.1
  clear hK m2 hO hOS La1 hP
  go_wp2_with fail
  refine (once g A n c 12 (by omega) _ (K2.out.alloc _).1).mono ?_
  rintro e w3 ⟨q, rfl, hL⟩
  have m3 := hL.kept.2
  have hs3 : w2.heap.size + 1 ≤ w3.heap.size := by have := m3.size; simpa using this
  have K3 := Lib.hid ((K2.out.alloc _).trans hL.kept)
  have V3 := Lib.hid ((Lvar.new w2 #[Value.int IntKind.i64 N, Value.slice B xs.length d] 26).keep m3 (by omega))
  have La3 := Lib.hid ((La2.out.alloc _).keep m3 (by omega))
  have O3 := Lib.hid ((O2.out.below ((Below.refl _ _).alloc (Nat.le_refl _) _)).keep m3 (by omega))
  clear hL m3 K2 La2 O2
  have v30 := V3.out.cell 0 (.int .i64 N) rfl
  have v31 := V3.out.cell 1 (.slice B xs.length d) rfl
  have v3l := V3.out.lt
  have la := La3.out.lt
  have hw1 : IntKind.i64.wrap ((xs.length : Int) + 1) = (xs.length : Int) + 1 := IntWalk.i64_in _ (by omega)
  obtain ⟨kk, hkk, hk25⟩ : ∃ kk : Nat, (kk : Int) = (xs.length : Int) + (if q = true then 1 else 0) ∧ kk ≤ 25 := ⟨xs.length + (if q = true then 1 else 0), by split <;> simp, by split <;> omega⟩
  have MU := Lib.hid (mult7 g A n c kk (by omega) w3.drew (K3.out.drew).1)
  rw [hkk] at MU
  clear hw1
  cases q with
  | true =>
    have MU := Lib.hid (show Calls Try.prog 45 #[.pointer (some ⟨g, 0, none⟩), .int .i64 ((xs.length : Int) + 1)] w3.drew (SomeInts w3.drew g A n c kk) by simpa using MU.out)
    go_wp2_with fail
    go_region_held3 (fun W => W.cell? ⟨w2.heap.size, 0, none⟩ = some (.int .i64 N) ∧ W.cell? ⟨w2.heap.size, 1, none⟩ = some (.slice B xs.length d))
      (first | with_reducible exact ⟨k50, k51⟩ | with_reducible exact ⟨kA0, kA1⟩ | go_keep)
      ((go_at_call 45; refine (Calls.mono MU.out) ?_; rintro e w5 ⟨C, f, ms, rfl, hlm, hO5, hK5⟩; (have HLM := Lib.hid hlm); clear hlm; (have m5 := hK5.2); (have V5 : Lvar w5 w2.heap.size #[Value.int IntKind.i64 N, Value.slice B xs.length d] := Lvar.keep (w := w3.drew) V3.out m5 (by omega)); (have La5 : Lvar w5 w.heap.size #[Value.int IntKind.i64 0, Value.slice none 0 0] := Lvar.keep (w := w3.drew) La3.out m5 (by omega)); (have a0 := La5.cell 0 (.int .i64 0) rfl); (have a1 := La5.cell 1 (.slice none 0 0) rfl); (have e0 := La5.frozen 0); (have e1 := La5.frozen 1); (have VA := other01 (u := .int .i64 N) (v := .slice B xs.length d) (b := w.heap.size) V5 (by omega)); (have k50 := V5.cell 0 (.int .i64 N) rfl); (have k51 := V5.cell 1 (.slice B xs.length d) rfl); (have kA0 := VA.cell 0 (.int .i64 N) rfl); (have kA1 := VA.cell 1 (.slice B xs.length d) rfl)))
    all_goals
      have hrz : SysK.Own w1.heap.size w2.heap.size w5 B xs.length d xs := SysK.Own.keep (w := w3.drew) O3.out m5 (by omega)
      have hbk : Below w.heap.size w w5 := kept_new B1.out (by omega) ((K3.out.drew).trans hK5)
      have hs5 : w3.heap.size ≤ w5.heap.size := m5.size
      clear m5 V5 hK5 La5 VA k50 k51 kA0 kA1
      have mm : Mod w.heap.size (w.heap.size + 1) w5 ((w5.setCell ⟨w.heap.size, 0, none⟩ (.int .i64 N)).setCell ⟨w.heap.size, 1, none⟩ (.slice B xs.length d)) := (Mod.set _ (p := ⟨w.heap.size, 0, none⟩) (Nat.le_refl _) (Nat.lt_succ_self _) _).trans (Mod.set _ (p := ⟨w.heap.size, 1, none⟩) (Nat.le_refl _) (Nat.lt_succ_self _) _)
      have H1 := Lib.hid (SysK.Own.keep hrz mm (Or.inr (by omega))).arg
      have H2 := Lib.hid (Row.keep hO5.1 mm (Or.inr (by show w.heap.size + 1 ≤ w3.heap.size; omega)))
      have H3 := Lib.hid (below_mod hbk mm (Nat.le_refl _) hbk.size)
      clear mm hrz hbk hO5
      go_wp2
      refine bodyPost_ret (v := .tuple #[.agg #[.int .i64 N, .slice B xs.length d], .slice C ms.length f]) (by simp [results, Try.results18, go_sem, a0, a1]) rfl ⟨N, B, d, xs, C, f, ms, _, _, rfl, HP.out, by have := HLM.out; omega, H1.out, H2.out, H3.out⟩
  | false =>
    have MU := Lib.hid (show Calls Try.prog 45 #[.pointer (some ⟨g, 0, none⟩), .int .i64 (xs.length : Int)] w3.drew (SomeInts w3.drew g A n c kk) by simpa using MU.out)
    go_wp2_with fail
    go_region_held3 (fun W => W.cell? ⟨w2.heap.size, 0, none⟩ = some (.int .i64 N) ∧ W.cell? ⟨w2.heap.size, 1, none⟩ = some (.slice B xs.length d))
      (first | with_reducible exact ⟨k50, k51⟩ | with_reducible exact ⟨kA0, kA1⟩ | go_keep)
      ((go_at_call 45; refine (Calls.mono MU.out) ?_; rintro e w5 ⟨C, f, ms, rfl, hlm, hO5, hK5⟩; (have HLM := Lib.hid hlm); clear hlm; (have m5 := hK5.2); (have V5 : Lvar w5 w2.heap.size #[Value.int IntKind.i64 N, Value.slice B xs.length d] := Lvar.keep (w := w3.drew) V3.out m5 (by omega)); (have La5 : Lvar w5 w.heap.size #[Value.int IntKind.i64 0, Value.slice none 0 0] := Lvar.keep (w := w3.drew) La3.out m5 (by omega)); (have a0 := La5.cell 0 (.int .i64 0) rfl); (have a1 := La5.cell 1 (.slice none 0 0) rfl); (have e0 := La5.frozen 0); (have e1 := La5.frozen 1); (have VA := other01 (u := .int .i64 N) (v := .slice B xs.length d) (b := w.heap.size) V5 (by omega)); (have k50 := V5.cell 0 (.int .i64 N) rfl); (have k51 := V5.cell 1 (.slice B xs.length d) rfl); (have kA0 := VA.cell 0 (.int .i64 N) rfl); (have kA1 := VA.cell 1 (.slice B xs.length d) rfl)))
    all_goals
      have hrz : SysK.Own w1.heap.size w2.heap.size w5 B xs.length d xs := SysK.Own.keep (w := w3.drew) O3.out m5 (by omega)
      have hbk : Below w.heap.size w w5 := kept_new B1.out (by omega) ((K3.out.drew).trans hK5)
      have hs5 : w3.heap.size ≤ w5.heap.size := m5.size
      clear m5 V5 hK5 La5 VA k50 k51 kA0 kA1
      have mm : Mod w.heap.size (w.heap.size + 1) w5 ((w5.setCell ⟨w.heap.size, 0, none⟩ (.int .i64 N)).setCell ⟨w.heap.size, 1, none⟩ (.slice B xs.length d)) := (Mod.set _ (p := ⟨w.heap.size, 0, none⟩) (Nat.le_refl _) (Nat.lt_succ_self _) _).trans (Mod.set _ (p := ⟨w.heap.size, 1, none⟩) (Nat.le_refl _) (Nat.lt_succ_self _) _)
      have H1 := Lib.hid (SysK.Own.keep hrz mm (Or.inr (by omega))).arg
      have H2 := Lib.hid (Row.keep hO5.1 mm (Or.inr (by show w.heap.size + 1 ≤ w3.heap.size; omega)))
      have H3 := Lib.hid (below_mod hbk mm (Nat.le_refl _) hbk.size)
      clear mm hrz hbk hO5
      go_wp2
      refine bodyPost_ret (v := .tuple #[.agg #[.int .i64 N, .slice B xs.length d], .slice C ms.length f]) (by simp [results, Try.results18, go_sem, a0, a1]) rfl ⟨N, B, d, xs, C, f, ms, _, _, rfl, HP.out, by have := HLM.out; omega, H1.out, H2.out, H3.out⟩
end Draw
end Go.Proofs.Ytnbgmhlhbcoicaa
