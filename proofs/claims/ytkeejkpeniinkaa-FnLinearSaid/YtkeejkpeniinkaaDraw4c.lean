/-
  The draws of the fourth chapter: what the laws on linear expressions are asked at.
-/
import Derived.Test.YtkeejkpeniinkaaDraw4b
namespace Go.Proofs.Ytkeejkpeniinkaa
open Go.RowKit
namespace Draw
open RowK

/-- Two integers. -/
def TwoInts (w : World) (e : Ending) (w' : World) : Prop := ∃ x y, I64 x ∧ I64 y ∧ e = .returned (.tuple #[.int .i64 x, .int .i64 y]) ∧ Below w.heap.size w w'

def fives : List Int := [0, 2, 8, 9, -1]
theorem fives_range : ∀ x ∈ fives, I64 x := by unfold I64; decide
def sixes : List Int := [0, 2, 3, 8, 9, -1]
theorem sixes_range : ∀ x ∈ sixes, I64 x := by unfold I64; decide

set_option maxHeartbeats 1000000 in
set_option maxRecDepth 100000 in
theorem drawConst (A : Option Addr) (n c : Nat) (hn : n ≤ 1048576) (w : World) (hc : Code w A n) :
    Calls Try.prog 14 #[.slice A n c] w (TwoInts w) := by
  go_enter Try.func14, Try.ntmps14
  go_wp2_with fail
  refine (new A n c hn _ hc).mono ?_
  rintro e w1 ⟨g, rfl, hC, hg, hb⟩
  go_wp2_with fail
  refine (any3 g A n c _ hC).mono ?_
  rintro e w2 ⟨x, hx, rfl, hL⟩
  have hb2 := below_left hb hg hL
  have hba : Below w2.heap.size w2 (w2.alloc (.cells (fives.map (Value.int .i64)).toArray 3)) := (Below.refl _ _).alloc (Nat.le_refl _) _
  go_wp2_with fail
  refine ((pickInt g A n c (some ⟨w2.heap.size, 0, none⟩) 5 5 fives rfl (by decide) (by omega) _ (hL.1.keep hba) (irow_new w2 fives 3) (fun b e => by injection e with e; subst e; have := hL.1.lt; show w2.heap.size ≠ g; omega))).mono ?_
  rintro e w3 ⟨y, hy, rfl, hL2⟩
  have hb3 := below_left (hb2.trans (hba.mono hb2.size)) hg hL2
  have hx2 := threes_range x hx
  have hy2 := fives_range y hy
  clear hx hy
  go_wp2
  go_ret2
  exact ⟨x, y, hx2, hy2, rfl, hb3⟩

set_option maxHeartbeats 1000000 in
set_option maxRecDepth 100000 in
theorem drawVar (A : Option Addr) (n c : Nat) (hn : n ≤ 1048576) (w : World) (hc : Code w A n) :
    Calls Try.prog 15 #[.slice A n c] w (TwoInts w) := by
  go_enter Try.func15, Try.ntmps15
  go_wp2_with fail
  refine (new A n c hn _ hc).mono ?_
  rintro e w1 ⟨g, rfl, hC, hg, hb⟩
  go_wp2_with fail
  refine (below g A n c 5 (by omega) _ hC).mono ?_
  rintro e w2 ⟨x, hx0, hx1, _, rfl, hL⟩
  have hx2 := hx1 (by omega)
  have hb2 := below_left hb hg hL
  have hba : Below w2.heap.size w2 (w2.alloc (.cells (sixes.map (Value.int .i64)).toArray 3)) := (Below.refl _ _).alloc (Nat.le_refl _) _
  clear hx1
  go_wp2_with fail
  refine ((pickInt g A n c (some ⟨w2.heap.size, 0, none⟩) 6 6 sixes rfl (by decide) (by omega) _ (hL.1.keep hba) (irow_new w2 sixes 3) (fun b e => by injection e with e; subst e; have := hL.1.lt; show w2.heap.size ≠ g; omega))).mono ?_
  rintro e w3 ⟨y, hy, rfl, hL2⟩
  have hb3 := below_left (hb2.trans (hba.mono hb2.size)) hg hL2
  have hy2 := sixes_range y hy
  clear hy
  go_wp2
  go_ret2
  exact ⟨x - 1, y, ⟨by omega, by omega⟩, hy2, rfl, hb3⟩

/-- Two linear expressions and an integer between. -/
def LinIntLin (w : World) (e : Ending) (w' : World) : Prop :=
  ∃ z zs B d k u us C f lo hi lo' hi', e = .returned (.tuple #[.agg #[.int .i64 z, .slice B zs.length d], .int .i64 k, .agg #[.int .i64 u, .slice C us.length f]]) ∧ Any4 z zs d ∧ I64 k ∧ Any4 u us f ∧ zs.length ≤ d ∧ us.length ≤ f ∧
    Row lo hi w' B (IntK.iv zs) ∧ Row lo' hi' w' C (IntK.iv us) ∧ Below w.heap.size w w'

set_option maxHeartbeats 2000000 in
set_option maxRecDepth 100000 in
theorem drawAddScaled (A : Option Addr) (n c : Nat) (hn : n ≤ 1048576) (w : World) (hc : Code w A n) :
    Calls Try.prog 6 #[.slice A n c] w (LinIntLin w) := by
  have b0 : Below w.heap.size w ((w.alloc (Obj.cells #[Value.int IntKind.i64 0, Value.slice none 0 0] 26)).alloc (Obj.cells #[Value.int IntKind.i64 0, Value.slice none 0 0] 26)) := ((Below.refl _ _).alloc (Nat.le_refl _) _).alloc (by simp) _
  have B0 := Lib.hid b0
  have La := Lib.hid ((Lvar.new w #[Value.int IntKind.i64 0, Value.slice none 0 0] 26).alloc (Obj.cells #[Value.int IntKind.i64 0, Value.slice none 0 0] 26))
  have Lb := Lib.hid (new1 w (Obj.cells #[Value.int IntKind.i64 0, Value.slice none 0 0] 26) #[Value.int IntKind.i64 0, Value.slice none 0 0] 26)
  clear b0
  go_enter Try.func6, Try.ntmps6
  go_wp2_with fail
  refine (new A n c hn _ (hc.keep B0.out)).mono ?_
  rintro e w1 ⟨g, rfl, hC, hg, hb⟩
  simp only [World.size_alloc] at hg
  have B1 := Lib.hid (B0.out.trans (hb.mono B0.out.size))
  have La1 := Lib.hid (La.out.below hb)
  have Lb1 := Lib.hid (Lb.out.below hb)
  have hgl := hC.lt
  clear hb La Lb
  go_wp2_with fail
  refine (bent4 g A n c _ hC).mono ?_
  rintro e w2 ⟨z, zs, B, d, rfl, hP, hd, hO, hK⟩
  have K2 := Lib.hid hK
  have m2 := hK.2
  have La2 := Lib.hid (La1.out.keep m2 (by omega))
  have Lb2 := Lib.hid (Lb1.out.keep m2 (by omega))
  have O2 := Lib.hid hO
  have hs2 := m2.size
  have HP := Lib.hid hP
  have HD := Lib.hid hd
  clear hK m2 hO La1 Lb1 hP hd
  go_wp2_with fail
  refine (once g A n c 5 (by omega) _ (K2.out.alloc _).1).mono ?_
  rintro e w3 ⟨q, rfl, hL⟩
  have m3 := hL.kept.2
  have hs3 : w2.heap.size + 1 ≤ w3.heap.size := by have := m3.size; simpa using this
  have K3 := Lib.hid ((K2.out.alloc _).trans hL.kept)
  have V3 := Lib.hid ((Lvar.new w2 #[Value.int IntKind.i64 z, Value.slice B zs.length d] 26).keep m3 (by omega))
  have La3 := Lib.hid ((La2.out.alloc _).keep m3 (by omega))
  have Lb3 := Lib.hid ((Lb2.out.alloc _).keep m3 (by omega))
  have O3 := Lib.hid ((O2.out.below ((Below.refl _ _).alloc (Nat.le_refl _) _)).keep m3 (by omega))
  clear hL m3 K2 La2 Lb2 O2
  have v30 := V3.out.cell 0 _ rfl
  have v31 := V3.out.cell 1 _ rfl
  have v3l := V3.out.lt
  have la := La3.out.lt
  have lb := Lb3.out.lt
  cases q with
  | true =>
    go_wp2_with fail
    go_region_held3 (fun W => W.cell? ⟨w2.heap.size, 0, none⟩ = some (.int .i64 z) ∧ W.cell? ⟨w2.heap.size, 1, none⟩ = some (.slice B zs.length d))
      (first | with_reducible exact ⟨k50, k51⟩ | with_reducible exact ⟨k40, k41⟩ | with_reducible exact ⟨kA0, kA1⟩ | with_reducible exact ⟨kB0, kB1⟩ | with_reducible exact ⟨kAB0, kAB1⟩ | with_reducible exact ⟨kBA0, kBA1⟩ | go_keep)
      (first
        | (go_at_call 26; refine (Calls.mono (any3 g A n c _ (K3.out.drew).1)) ?_; rintro e w4 ⟨t, ht, rfl, hL⟩; (have m4 := hL.kept.2); (have K4 := (K3.out.drew).trans hL.kept); (have V4 : Lvar w4 w2.heap.size #[Value.int IntKind.i64 z, Value.slice B zs.length d] := Lvar.keep (w := w3.drew) V3.out m4 (by omega)); (have k40 := V4.cell 0 _ rfl); (have k41 := V4.cell 1 _ rfl))
        | (go_at_call 24; refine (Calls.mono (bent4 g A n c _ K4.1)) ?_; rintro e w5 ⟨u, us, C, f, rfl, hP5, hd5, hO5, hK5⟩; (have m5 := hK5.2); (have V5 := V4.keep m5 (by omega)); (have La5 : Lvar w5 w.heap.size #[Value.int IntKind.i64 0, Value.slice none 0 0] := (Lvar.keep (w := w3.drew) La3.out m4 (by omega)).keep m5 (by omega)); (have Lb5 : Lvar w5 (w.heap.size + 1) #[Value.int IntKind.i64 0, Value.slice none 0 0] := (Lvar.keep (w := w3.drew) Lb3.out m4 (by omega)).keep m5 (by omega)); (have a0 := La5.cell 0 _ rfl); (have a1 := La5.cell 1 _ rfl); (have e0 := La5.frozen 0); (have e1 := La5.frozen 1); (have i0 := Lb5.cell 0 _ rfl); (have i1 := Lb5.cell 1 _ rfl); (have j0 := Lb5.frozen 0); (have j1 := Lb5.frozen 1); (have VA := other01 (u := .int .i64 z) (v := .slice B zs.length d) (b := w.heap.size) V5 (by omega)); (have VB := other01 (u := .int .i64 u) (v := .slice C us.length f) (b := w.heap.size + 1) V5 (by omega)); (have VAB := other01 (u := .int .i64 u) (v := .slice C us.length f) (b := w.heap.size + 1) VA (by omega)); (have VBA := other01 (u := .int .i64 z) (v := .slice B zs.length d) (b := w.heap.size) VB (by omega)); (have k50 := V5.cell 0 _ rfl); (have k51 := V5.cell 1 _ rfl); (have kA0 := VA.cell 0 _ rfl); (have kA1 := VA.cell 1 _ rfl); (have kB0 := VB.cell 0 _ rfl); (have kB1 := VB.cell 1 _ rfl); (have kAB0 := VAB.cell 0 _ rfl); (have kAB1 := VAB.cell 1 _ rfl); (have kBA0 := VBA.cell 0 _ rfl); (have kBA1 := VBA.cell 1 _ rfl)))
    all_goals
      have hrz : Row w1.heap.size w2.heap.size w5 B (IntK.iv zs) := ((IntK.Own.keep (w := w3.drew) O3.out m4 (by omega)).keep m5 (by omega)).1
      have hbk : Below w.heap.size w w5 := kept_new B1.out (by omega) (K4.trans hK5)
      have hs4 : w3.heap.size ≤ w4.heap.size := m4.size
      have HT := Lib.hid (show I64 t from threes_range t ht)
      clear hL m4 m5 V4 V5 K4 hK5 La5 Lb5 VA VB VAB VBA k40 k41 k50 k51 kA0 kA1 kB0 kB1 kAB0 kAB1 kBA0 kBA1
      go_wp2
      refine bodyPost_ret (v := .tuple #[.agg #[.int .i64 z, .slice B zs.length d], .int .i64 t, .agg #[.int .i64 u, .slice C us.length f]]) (by simp [results, Try.results6, go_sem, a0, a1, i0, i1]) rfl ⟨z, zs, B, d, t, u, us, C, f, _, _, _, _, rfl, HP.out, HT.out, hP5, HD.out, hd5, Row.keep (lo' := w.heap.size) (hi' := w.heap.size + 2) hrz ((((Mod.set _ (by first | (simp; done) | (simp; omega)) (by first | (simp; done) | (simp; omega)) _).trans (Mod.set _ (by first | (simp; done) | (simp; omega)) (by first | (simp; done) | (simp; omega)) _)).trans (Mod.set _ (by first | (simp; done) | (simp; omega)) (by first | (simp; done) | (simp; omega)) _)).trans (Mod.set _ (by first | (simp; done) | (simp; omega)) (by first | (simp; done) | (simp; omega)) _)) (Or.inr (by omega)), Row.keep (lo' := w.heap.size) (hi' := w.heap.size + 2) hO5.1 ((((Mod.set _ (by first | (simp; done) | (simp; omega)) (by first | (simp; done) | (simp; omega)) _).trans (Mod.set _ (by first | (simp; done) | (simp; omega)) (by first | (simp; done) | (simp; omega)) _)).trans (Mod.set _ (by first | (simp; done) | (simp; omega)) (by first | (simp; done) | (simp; omega)) _)).trans (Mod.set _ (by first | (simp; done) | (simp; omega)) (by first | (simp; done) | (simp; omega)) _)) (Or.inr (by omega)), ((((hbk.setCell (by first | (simp; done) | (simp; omega)) _).setCell (by first | (simp; done) | (simp; omega)) _).setCell (by first | (simp; done) | (simp; omega)) _).setCell (by first | (simp; done) | (simp; omega)) _)⟩
  | false =>
    have hz10 : zs.length ≤ 9 := HP.out.2.1
    have hz9 : zs.length ≤ 100 := by omega
    go_wp2_with fail
    go_region_held3 (fun W => W.cell? ⟨w2.heap.size, 0, none⟩ = some (.int .i64 z) ∧ W.cell? ⟨w2.heap.size, 1, none⟩ = some (.slice B zs.length d))
      (first | with_reducible exact ⟨k50, k51⟩ | with_reducible exact ⟨k40, k41⟩ | with_reducible exact ⟨kA0, kA1⟩ | with_reducible exact ⟨kB0, kB1⟩ | with_reducible exact ⟨kAB0, kAB1⟩ | with_reducible exact ⟨kBA0, kBA1⟩ | go_keep)
      (first
        | (go_at_call 27; refine (Calls.mono (Draw.below g A n c 9 (by omega) _ (K3.out.drew).1)) ?_; rintro e w4 ⟨t, ht0, ht1, _, rfl, hL⟩; (have ht2 := ht1 (by omega)); (have hw4 : IntKind.i64.wrap (t - 4) = t - 4 := IntWalk.i64_in _ (by omega)); (have m4 := hL.kept.2); (have K4 := (K3.out.drew).trans hL.kept); (have V4 : Lvar w4 w2.heap.size #[Value.int IntKind.i64 z, Value.slice B zs.length d] := Lvar.keep (w := w3.drew) V3.out m4 (by omega)); (have k40 := V4.cell 0 _ rfl); (have k41 := V4.cell 1 _ rfl))
        | (go_at_call 28; refine (Calls.mono (draw4 g A n c zs.length hz9 _ K4.1)) ?_; rintro e w5 ⟨u, us, C, f, rfl, hS5, hd5, hO5, hK5⟩; (have hP5 : Any4 u us f := ⟨⟨by have := hS5.1; omega, by have := hS5.1; omega⟩, by rw [hS5.2.1]; exact hz10, fun x hx => ⟨by have := hS5.2.2.2 x hx; omega, by have := hS5.2.2.2 x hx; omega⟩⟩); (have m5 := hK5.2); (have V5 := V4.keep m5 (by omega)); (have La5 : Lvar w5 w.heap.size #[Value.int IntKind.i64 0, Value.slice none 0 0] := (Lvar.keep (w := w3.drew) La3.out m4 (by omega)).keep m5 (by omega)); (have Lb5 : Lvar w5 (w.heap.size + 1) #[Value.int IntKind.i64 0, Value.slice none 0 0] := (Lvar.keep (w := w3.drew) Lb3.out m4 (by omega)).keep m5 (by omega)); (have a0 := La5.cell 0 _ rfl); (have a1 := La5.cell 1 _ rfl); (have e0 := La5.frozen 0); (have e1 := La5.frozen 1); (have i0 := Lb5.cell 0 _ rfl); (have i1 := Lb5.cell 1 _ rfl); (have j0 := Lb5.frozen 0); (have j1 := Lb5.frozen 1); (have VA := other01 (u := .int .i64 z) (v := .slice B zs.length d) (b := w.heap.size) V5 (by omega)); (have VB := other01 (u := .int .i64 u) (v := .slice C us.length f) (b := w.heap.size + 1) V5 (by omega)); (have VAB := other01 (u := .int .i64 u) (v := .slice C us.length f) (b := w.heap.size + 1) VA (by omega)); (have VBA := other01 (u := .int .i64 z) (v := .slice B zs.length d) (b := w.heap.size) VB (by omega)); (have k50 := V5.cell 0 _ rfl); (have k51 := V5.cell 1 _ rfl); (have kA0 := VA.cell 0 _ rfl); (have kA1 := VA.cell 1 _ rfl); (have kB0 := VB.cell 0 _ rfl); (have kB1 := VB.cell 1 _ rfl); (have kAB0 := VAB.cell 0 _ rfl); (have kAB1 := VAB.cell 1 _ rfl); (have kBA0 := VBA.cell 0 _ rfl); (have kBA1 := VBA.cell 1 _ rfl)))
    all_goals
      have hrz : Row w1.heap.size w2.heap.size w5 B (IntK.iv zs) := ((IntK.Own.keep (w := w3.drew) O3.out m4 (by omega)).keep m5 (by omega)).1
      have hbk : Below w.heap.size w w5 := kept_new B1.out (by omega) (K4.trans hK5)
      have hs4 : w3.heap.size ≤ w4.heap.size := m4.size
      have HT := Lib.hid (show I64 (t - 4) from ⟨by omega, by omega⟩)
      clear hL m4 m5 V4 V5 K4 hK5 La5 Lb5 VA VB VAB VBA k40 k41 k50 k51 kA0 kA1 kB0 kB1 kAB0 kAB1 kBA0 kBA1
      go_wp2
      refine bodyPost_ret (v := .tuple #[.agg #[.int .i64 z, .slice B zs.length d], .int .i64 (t - 4), .agg #[.int .i64 u, .slice C us.length f]]) (by simp [results, Try.results6, go_sem, a0, a1, i0, i1]) rfl ⟨z, zs, B, d, t - 4, u, us, C, f, _, _, _, _, rfl, HP.out, HT.out, hP5, HD.out, hd5, Row.keep (lo' := w.heap.size) (hi' := w.heap.size + 2) hrz ((((Mod.set _ (by first | (simp; done) | (simp; omega)) (by first | (simp; done) | (simp; omega)) _).trans (Mod.set _ (by first | (simp; done) | (simp; omega)) (by first | (simp; done) | (simp; omega)) _)).trans (Mod.set _ (by first | (simp; done) | (simp; omega)) (by first | (simp; done) | (simp; omega)) _)).trans (Mod.set _ (by first | (simp; done) | (simp; omega)) (by first | (simp; done) | (simp; omega)) _)) (Or.inr (by omega)), Row.keep (lo' := w.heap.size) (hi' := w.heap.size + 2) hO5.1 ((((Mod.set _ (by first | (simp; done) | (simp; omega)) (by first | (simp; done) | (simp; omega)) _).trans (Mod.set _ (by first | (simp; done) | (simp; omega)) (by first | (simp; done) | (simp; omega)) _)).trans (Mod.set _ (by first | (simp; done) | (simp; omega)) (by first | (simp; done) | (simp; omega)) _)).trans (Mod.set _ (by first | (simp; done) | (simp; omega)) (by first | (simp; done) | (simp; omega)) _)) (Or.inr (by omega)), ((((hbk.setCell (by first | (simp; done) | (simp; omega)) _).setCell (by first | (simp; done) | (simp; omega)) _).setCell (by first | (simp; done) | (simp; omega)) _).setCell (by first | (simp; done) | (simp; omega)) _)⟩
end Draw
end Go.Proofs.Ytkeejkpeniinkaa
