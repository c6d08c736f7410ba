import Derived.Test.YtompaciebpdmfaaDraw6c
import Derived.Test.YtompaciebpdmfaaSysCopy
/-
  The draws of the sixth chapter: a system and a row.
-/
namespace Go.Proofs.Ytompaciebpdmfaa
open Go.RowKit
namespace Draw
open RowK Mem LinM

def ANat (w : World) (e : Ending) (w' : World) : Prop := ∃ k : Nat, e = .returned (.int .i64 k) ∧ w = w'
theorem max0 (x : Int) (w : World) : Calls Try.prog 37 #[.int .i64 x, .int .i64 0] w (ANat w) := by
  by_cases h : 0 < x
  · obtain ⟨k, rfl⟩ := Int.eq_ofNat_of_zero_le (Int.le_of_lt h)
    go_enter Try.func37, Try.ntmps37
    go_wp2
    go_ret
    exact ⟨k, rfl, rfl⟩
  · have hd : decide (0 < x) = false := decide_eq_false h
    go_enter Try.func37, Try.ntmps37
    go_wp2
    go_ret
    exact ⟨0, rfl, rfl⟩
theorem min9 (k : Nat) (w : World) : Calls Try.prog 36 #[.int .i64 k, .int .i64 9] w fun e w' => ∃ m : Nat, m ≤ 9 ∧ e = .returned (.int .i64 m) ∧ w = w' := by
  by_cases h : (k : Int) < 9
  · go_enter Try.func36, Try.ntmps36
    go_wp2
    go_ret
    exact ⟨k, by omega, rfl, rfl⟩
  · have hd : decide ((k : Int) < 9) = false := decide_eq_false h
    go_enter Try.func36, Try.ntmps36
    go_wp2
    go_ret
    exact ⟨9, by omega, rfl, rfl⟩

/-- A system and a linear expression. -/
def SysLin (w : World) (e : Ending) (w' : World) : Prop :=
  ∃ (N : Int) (B : Option Addr) (d : Nat) (xs : List (Int × List Int)) (z : Int) (zs : List Int) (C : Option Addr) (f lo hi : Nat), e = .returned (.tuple #[.agg #[.int .i64 N, .slice B xs.length d], .agg #[.int .i64 z, .slice C zs.length f]]) ∧ Any6 N xs ∧ zs.length ≤ 9 ∧ SysK.Arg w' B xs.length d xs ∧ Row lo hi w' C (IntK.iv zs) ∧ Below w.heap.size w w'

set_option maxHeartbeats 2000000 in
set_option maxRecDepth 100000 in
theorem drawAddRow (A : Option Addr) (n c : Nat) (hn : n ≤ 1048576) (w : World) (hc : Code w A n) :
    Calls Try.prog 9 #[.slice A n c] w (SysLin w) := by
  have b0 : Below w.heap.size w ((w.alloc (Obj.cells #[Value.int IntKind.i64 0, Value.slice none 0 0] 26)).alloc (Obj.cells #[Value.int IntKind.i64 0, Value.slice none 0 0] 29)) := ((Below.refl _ _).alloc (Nat.le_refl _) _).alloc (by simp) _
  have B0 := Lib.hid b0
  have La := Lib.hid ((Lvar.new w #[Value.int IntKind.i64 0, Value.slice none 0 0] 26).alloc (Obj.cells #[Value.int IntKind.i64 0, Value.slice none 0 0] 29))
  have Lb := Lib.hid (new1 w (Obj.cells #[Value.int IntKind.i64 0, Value.slice none 0 0] 26) #[Value.int IntKind.i64 0, Value.slice none 0 0] 29)
  clear b0
  go_enter Try.func9, Try.ntmps9
  go_wp2_with fail
  refine (new A n c hn _ (hc.keep B0.out)).mono ?_
  rintro e w1 ⟨g, rfl, hC, hg, hb⟩
  simp only [World.size_alloc] at hg
  have B1 := Lib.hid (B0.out.trans (hb.mono B0.out.size))
  have La1 := Lib.hid (La.out.below hb)
  have Lb1 := Lib.hid (Lb.out.below hb)
  have hgl := hC.lt
  clear hb La Lb
  go_wp2_with fail
  refine (bent6 g A n c _ hC).mono ?_
  rintro e w2 ⟨N, v, xs, rfl, hP, hO, hK⟩
  obtain ⟨B, d, rfl, hOS⟩ := SysS.own_slice (lo := w1.heap.size) hO (fun b h => h)
  have K2 := Lib.hid hK
  have m2 := hK.2
  have La2 := Lib.hid (La1.out.keep m2 (by omega))
  have Lb2 := Lib.hid (Lb1.out.keep m2 (by omega))
  have O2 := Lib.hid hOS
  have hs2 := m2.size
  have HP := Lib.hid hP
  clear hK m2 hO hOS La1 Lb1 hP
  go_wp2_with fail
  refine (once g A n c 4 (by omega) _ (K2.out.alloc _).1).mono ?_
  rintro e w3 ⟨q, rfl, hL⟩
  have m3 := hL.kept.2
  have hs3 : w2.heap.size + 1 ≤ w3.heap.size := by have := m3.size; simpa using this
  have K3 := Lib.hid ((K2.out.alloc _).trans hL.kept)
  have V3 := Lib.hid ((Lvar.new w2 #[Value.int IntKind.i64 N, Value.slice B xs.length d] 26).keep m3 (by omega))
  have La3 := Lib.hid ((La2.out.alloc _).keep m3 (by omega))
  have Lb3 := Lib.hid ((Lb2.out.alloc _).keep m3 (by omega))
  have O3 := Lib.hid ((O2.out.below ((Below.refl _ _).alloc (Nat.le_refl _) _)).keep m3 (by omega))
  clear hL m3 K2 La2 Lb2 O2
  have v30 := V3.out.cell 0 _ rfl
  have v31 := V3.out.cell 1 _ rfl
  have v3l := V3.out.lt
  have la := La3.out.lt
  have lb := Lb3.out.lt
  cases q with
  | true =>
    go_wp2_with fail
    go_region_held3 (fun W => W.cell? ⟨w2.heap.size, 0, none⟩ = some (.int .i64 N) ∧ W.cell? ⟨w2.heap.size, 1, none⟩ = some (.slice B xs.length d))
      (first | with_reducible exact ⟨k50, k51⟩ | with_reducible exact ⟨kA0, kA1⟩ | with_reducible exact ⟨kB0, kB1⟩ | with_reducible exact ⟨kAB0, kAB1⟩ | with_reducible exact ⟨kBA0, kBA1⟩ | go_keep)
      ((go_at_call 34; refine (Calls.mono (bent4 g A n c _ (K3.out.drew).1)) ?_; rintro e w5 ⟨u, us, C, f, rfl, hP5, hd5, hO5, hK5⟩; (have hU : us.length ≤ 9 := hP5.2.1); (have m5 := hK5.2); (have V5 : Lvar w5 w2.heap.size #[Value.int IntKind.i64 N, Value.slice B xs.length d] := Lvar.keep (w := w3.drew) V3.out m5 (by omega)); (have La5 : Lvar w5 w.heap.size #[Value.int IntKind.i64 0, Value.slice none 0 0] := Lvar.keep (w := w3.drew) La3.out m5 (by omega)); (have Lb5 : Lvar w5 (w.heap.size + 1) #[Value.int IntKind.i64 0, Value.slice none 0 0] := Lvar.keep (w := w3.drew) Lb3.out m5 (by omega)); (have a0 := La5.cell 0 _ rfl); (have a1 := La5.cell 1 _ rfl); (have e0 := La5.frozen 0); (have e1 := La5.frozen 1); (have i0 := Lb5.cell 0 _ rfl); (have i1 := Lb5.cell 1 _ rfl); (have j0 := Lb5.frozen 0); (have j1 := Lb5.frozen 1); (have VA := other01 (u := .int .i64 N) (v := .slice B xs.length d) (b := w.heap.size) V5 (by omega)); (have VB := other01 (u := .int .i64 u) (v := .slice C us.length f) (b := w.heap.size + 1) V5 (by omega)); (have VAB := other01 (u := .int .i64 u) (v := .slice C us.length f) (b := w.heap.size + 1) VA (by omega)); (have VBA := other01 (u := .int .i64 N) (v := .slice B xs.length d) (b := w.heap.size) VB (by omega)); (have k50 := V5.cell 0 _ rfl); (have k51 := V5.cell 1 _ rfl); (have kA0 := VA.cell 0 _ rfl); (have kA1 := VA.cell 1 _ rfl); (have kB0 := VB.cell 0 _ rfl); (have kB1 := VB.cell 1 _ rfl); (have kAB0 := VAB.cell 0 _ rfl); (have kAB1 := VAB.cell 1 _ rfl); (have kBA0 := VBA.cell 0 _ rfl); (have kBA1 := VBA.cell 1 _ rfl)))
    all_goals
      have hrz : SysK.Own w1.heap.size w2.heap.size w5 B xs.length d xs := SysK.Own.keep (w := w3.drew) O3.out m5 (by omega)
      have hbk : Below w.heap.size w w5 := kept_new B1.out (by omega) ((K3.out.drew).trans hK5)
      have hs5 : w3.heap.size ≤ w5.heap.size := m5.size
      clear m5 V5 hK5 La5 Lb5 VA VB VAB VBA k50 k51 kA0 kA1 kB0 kB1 kAB0 kAB1 kBA0 kBA1
      go_wp2
      refine bodyPost_ret (v := .tuple #[.agg #[.int .i64 N, .slice B xs.length d], .agg #[.int .i64 u, .slice C us.length f]]) (by simp [results, Try.results9, go_sem, a0, a1, i0, i1]) rfl ⟨N, B, d, xs, u, us, C, f, _, _, rfl, HP.out, hU, (SysK.Own.keep (lo' := w.heap.size) (hi' := w.heap.size + 2) hrz ((((Mod.set _ (by first | (simp; done) | (simp; omega)) (by first | (simp; done) | (simp; omega)) _).trans (Mod.set _ (by first | (simp; done) | (simp; omega)) (by first | (simp; done) | (simp; omega)) _)).trans (Mod.set _ (by first | (simp; done) | (simp; omega)) (by first | (simp; done) | (simp; omega)) _)).trans (Mod.set _ (by first | (simp; done) | (simp; omega)) (by first | (simp; done) | (simp; omega)) _)) (Or.inr (by omega))).arg, Row.keep (lo' := w.heap.size) (hi' := w.heap.size + 2) hO5.1 ((((Mod.set _ (by first | (simp; done) | (simp; omega)) (by first | (simp; done) | (simp; omega)) _).trans (Mod.set _ (by first | (simp; done) | (simp; omega)) (by first | (simp; done) | (simp; omega)) _)).trans (Mod.set _ (by first | (simp; done) | (simp; omega)) (by first | (simp; done) | (simp; omega)) _)).trans (Mod.set _ (by first | (simp; done) | (simp; omega)) (by first | (simp; done) | (simp; omega)) _)) (Or.inr (by show w.heap.size + 2 ≤ w3.heap.size; omega)), ((((hbk.setCell (by first | (simp; done) | (simp; omega)) _).setCell (by first | (simp; done) | (simp; omega)) _).setCell (by first | (simp; done) | (simp; omega)) _).setCell (by first | (simp; done) | (simp; omega)) _)⟩
  | false =>
    go_wp2_with fail
    go_region_held3 (fun W => W.cell? ⟨w2.heap.size, 0, none⟩ = some (.int .i64 N) ∧ W.cell? ⟨w2.heap.size, 1, none⟩ = some (.slice B xs.length d))
      (first | with_reducible exact ⟨k50, k51⟩ | with_reducible exact ⟨kA0, kA1⟩ | with_reducible exact ⟨kB0, kB1⟩ | with_reducible exact ⟨kAB0, kAB1⟩ | with_reducible exact ⟨kBA0, kBA1⟩ | go_keep)
      (first
        | (go_at_call 37; refine (Calls.mono (max0 N _)) ?_; rintro e w9 ⟨kk, rfl, rfl⟩)
        | (go_at_call 36; refine (Calls.mono (min9 kk _)) ?_; rintro e w9 ⟨mm, hmm, rfl, rfl⟩)
        | (go_at_call 35; refine (Calls.mono (draw4 g A n c mm (by omega) _ (K3.out.drew).1)) ?_; rintro e w5 ⟨u, us, C, f, rfl, hP5, hd5, hO5, hK5⟩; (have hU : us.length ≤ 9 := by rw [hP5.2.1]; exact hmm); (have m5 := hK5.2); (have V5 : Lvar w5 w2.heap.size #[Value.int IntKind.i64 N, Value.slice B xs.length d] := Lvar.keep (w := w3.drew) V3.out m5 (by omega)); (have La5 : Lvar w5 w.heap.size #[Value.int IntKind.i64 0, Value.slice none 0 0] := Lvar.keep (w := w3.drew) La3.out m5 (by omega)); (have Lb5 : Lvar w5 (w.heap.size + 1) #[Value.int IntKind.i64 0, Value.slice none 0 0] := Lvar.keep (w := w3.drew) Lb3.out m5 (by omega)); (have a0 := La5.cell 0 _ rfl); (have a1 := La5.cell 1 _ rfl); (have e0 := La5.frozen 0); (have e1 := La5.frozen 1); (have i0 := Lb5.cell 0 _ rfl); (have i1 := Lb5.cell 1 _ rfl); (have j0 := Lb5.frozen 0); (have j1 := Lb5.frozen 1); (have VA := other01 (u := .int .i64 N) (v := .slice B xs.length d) (b := w.heap.size) V5 (by omega)); (have VB := other01 (u := .int .i64 u) (v := .slice C us.length f) (b := w.heap.size + 1) V5 (by omega)); (have VAB := other01 (u := .int .i64 u) (v := .slice C us.length f) (b := w.heap.size + 1) VA (by omega)); (have VBA := other01 (u := .int .i64 N) (v := .slice B xs.length d) (b := w.heap.size) VB (by omega)); (have k50 := V5.cell 0 _ rfl); (have k51 := V5.cell 1 _ rfl); (have kA0 := VA.cell 0 _ rfl); (have kA1 := VA.cell 1 _ rfl); (have kB0 := VB.cell 0 _ rfl); (have kB1 := VB.cell 1 _ rfl); (have kAB0 := VAB.cell 0 _ rfl); (have kAB1 := VAB.cell 1 _ rfl); (have kBA0 := VBA.cell 0 _ rfl); (have kBA1 := VBA.cell 1 _ rfl)))
    all_goals
      have hrz : SysK.Own w1.heap.size w2.heap.size w5 B xs.length d xs := SysK.Own.keep (w := w3.drew) O3.out m5 (by omega)
      have hbk : Below w.heap.size w w5 := kept_new B1.out (by omega) ((K3.out.drew).trans hK5)
      have hs5 : w3.heap.size ≤ w5.heap.size := m5.size
      clear m5 V5 hK5 La5 Lb5 VA VB VAB VBA k50 k51 kA0 kA1 kB0 kB1 kAB0 kAB1 kBA0 kBA1
      go_wp2
      refine bodyPost_ret (v := .tuple #[.agg #[.int .i64 N, .slice B xs.length d], .agg #[.int .i64 u, .slice C us.length f]]) (by simp [results, Try.results9, go_sem, a0, a1, i0, i1]) rfl ⟨N, B, d, xs, u, us, C, f, _, _, rfl, HP.out, hU, (SysK.Own.keep (lo' := w.heap.size) (hi' := w.heap.size + 2) hrz ((((Mod.set _ (by first | (simp; done) | (simp; omega)) (by first | (simp; done) | (simp; omega)) _).trans (Mod.set _ (by first | (simp; done) | (simp; omega)) (by first | (simp; done) | (simp; omega)) _)).trans (Mod.set _ (by first | (simp; done) | (simp; omega)) (by first | (simp; done) | (simp; omega)) _)).trans (Mod.set _ (by first | (simp; done) | (simp; omega)) (by first | (simp; done) | (simp; omega)) _)) (Or.inr (by omega))).arg, Row.keep (lo' := w.heap.size) (hi' := w.heap.size + 2) hO5.1 ((((Mod.set _ (by first | (simp; done) | (simp; omega)) (by first | (simp; done) | (simp; omega)) _).trans (Mod.set _ (by first | (simp; done) | (simp; omega)) (by first | (simp; done) | (simp; omega)) _)).trans (Mod.set _ (by first | (simp; done) | (simp; omega)) (by first | (simp; done) | (simp; omega)) _)).trans (Mod.set _ (by first | (simp; done) | (simp; omega)) (by first | (simp; done) | (simp; omega)) _)) (Or.inr (by show w.heap.size + 2 ≤ w3.heap.size; omega)), ((((hbk.setCell (by first | (simp; done) | (simp; omega)) _).setCell (by first | (simp; done) | (simp; omega)) _).setCell (by first | (simp; done) | (simp; omega)) _).setCell (by first | (simp; done) | (simp; omega)) _)⟩
end Draw
end Go.Proofs.Ytompaciebpdmfaa
