import Derived.Test.YtnbgmhlhbcoicaaDraw7d
/-
  The draws of the seventh chapter: a system, a target, a certificate.
-/
namespace Go.Proofs.Ytnbgmhlhbcoicaa
open Go.RowKit
namespace Draw
open RowK Mem LinM FarkM

def SysLinFk (w : World) (e : Ending) (w' : World) : Prop :=
  ∃ (N : Int) (B : Option Addr) (d : Nat) (xs : List (Int × List Int)) (z : Int) (zs : List Int) (C : Option Addr) (f : Nat) (sc : Int) (ms : List Int) (M : Option Addr) (e0 lo hi lo' hi' : Nat),
    e = .returned (.tuple #[.agg #[.int .i64 N, .slice B xs.length d], .agg #[.int .i64 z, .slice C zs.length f], .agg #[.int .i64 sc, .slice M ms.length e0]]) ∧ Any6 N xs ∧ zs.length ≤ 9 ∧ ms.length ≤ 25 ∧ SysK.Arg w' B xs.length d xs ∧ Row lo hi w' C (IntK.iv zs) ∧ Row lo' hi' w' M (IntK.iv ms) ∧ Below w.heap.size w w'

set_option maxHeartbeats 8000000 in
set_option maxRecDepth 100000 in
theorem drawCheckFarkas (A : Option Addr) (n c : Nat) (hn : n ≤ 1048576) (w : World) (hc : Code w A n) :
    Calls Try.prog 11 #[.slice A n c] w (SysLinFk w) := by
  have b0 : Below w.heap.size w (((w.alloc (Obj.cells #[Value.int IntKind.i64 0, Value.slice none 0 0] 26)).alloc (Obj.cells #[Value.int IntKind.i64 0, Value.slice none 0 0] 29)).alloc (Obj.cells #[Value.int IntKind.i64 0, Value.slice none 0 0] 31)) := (((Below.refl _ _).alloc (Nat.le_refl _) _).alloc (by simp) _).alloc (by simp; omega) _
  have B0 := Lib.hid b0
  have La := Lib.hid (((Lvar.new w #[Value.int IntKind.i64 0, Value.slice none 0 0] 26).alloc (Obj.cells #[Value.int IntKind.i64 0, Value.slice none 0 0] 29)).alloc (Obj.cells #[Value.int IntKind.i64 0, Value.slice none 0 0] 31))
  have Lb := Lib.hid ((new1 w (Obj.cells #[Value.int IntKind.i64 0, Value.slice none 0 0] 26) #[Value.int IntKind.i64 0, Value.slice none 0 0] 29).alloc (Obj.cells #[Value.int IntKind.i64 0, Value.slice none 0 0] 31))
  have Lc := Lib.hid (new2 w (Obj.cells #[Value.int IntKind.i64 0, Value.slice none 0 0] 26) (Obj.cells #[Value.int IntKind.i64 0, Value.slice none 0 0] 29) #[Value.int IntKind.i64 0, Value.slice none 0 0] 31)
  clear b0
  go_enter Try.func11, Try.ntmps11
  go_wp2_with fail
  refine (new A n c hn _ (hc.keep B0.out)).mono ?_
  rintro e w1 ⟨g, rfl, hC, hg, hb⟩
  simp only [World.size_alloc] at hg
  have B1 := Lib.hid (B0.out.trans (hb.mono B0.out.size))
  have La1 := Lib.hid (La.out.below hb)
  have Lb1 := Lib.hid (Lb.out.below hb)
  have Lc1 := Lib.hid (Lc.out.below hb)
  have hgl := hC.lt
  clear hb La Lb Lc
  go_wp2_with fail
  refine (bent6 g A n c _ hC).mono ?_
  rintro e w2 ⟨N, v, xs, rfl, hP, hO, hK⟩
  obtain ⟨B, d, rfl, hOS⟩ := SysS.own_slice (lo := w1.heap.size) hO (fun b h => h)
  have m2 := hK.2
  have K2 := Lib.hid (hK.alloc (Obj.cells #[Value.int IntKind.i64 N, Value.slice B xs.length d] 26))
  have La2 := Lib.hid ((La1.out.keep m2 (by omega)).alloc (Obj.cells #[Value.int IntKind.i64 N, Value.slice B xs.length d] 26))
  have Lb2 := Lib.hid ((Lb1.out.keep m2 (by omega)).alloc (Obj.cells #[Value.int IntKind.i64 N, Value.slice B xs.length d] 26))
  have Lc2 := Lib.hid ((Lc1.out.keep m2 (by omega)).alloc (Obj.cells #[Value.int IntKind.i64 N, Value.slice B xs.length d] 26))
  have O2 := Lib.hid (hOS.below ((Below.refl _ _).alloc (Nat.le_refl _) (Obj.cells #[Value.int IntKind.i64 N, Value.slice B xs.length d] 26)))
  have V2 := Lib.hid (Lvar.new w2 #[Value.int IntKind.i64 N, Value.slice B xs.length d] 26)
  have hs2 := m2.size
  have HP := Lib.hid hP
  have hx24 := hP.2.1
  have hsz : linsSize xs ≤ 1000 := by
    have h1 := linsSize_le (m := 9) hP.2.2
    omega
  clear hK m2 hO hOS La1 Lb1 Lc1 hP
  go_wp2_with fail
  refine (mult7 g A n c xs.length (by omega) _ K2.out.1).mono ?_
  rintro e w3 ⟨M, e0, ms, rfl, hlm, hO3, hK3⟩
  have HLM := Lib.hid hlm
  have m3 := hK3.2
  have hs3 : w2.heap.size + 1 ≤ w3.heap.size := by have := m3.size; simpa using this
  have K3 := Lib.hid (K2.out.trans hK3)
  have La3 := Lib.hid (La2.out.keep m3 (by omega))
  have Lb3 := Lib.hid (Lb2.out.keep m3 (by omega))
  have Lc3 := Lib.hid (Lc2.out.keep m3 (by omega))
  have O3 := Lib.hid (O2.out.keep m3 (by omega))
  have V3 := Lib.hid (V2.out.keep m3 (by omega))
  have hr3 := hO3.1.wider (lo' := w2.heap.size) (hi' := w3.heap.size) (by simp) (Nat.le_refl _) (Nat.le_refl _)
  have M3 := Lib.hid hr3
  have HM := Lib.hid (show ms.length ≤ 25 by omega)
  clear hK3 m3 hO3 K2 La2 Lb2 Lc2 O2 V2 hlm hr3
  have v0 := V3.out.cell 0 (.int .i64 N) rfl
  have v1 := V3.out.cell 1 (.slice B xs.length d) rfl
  have CB := Lib.hid (FarkS.combine _ _ N B M d e0 xs ms w3 O3.out.arg (by omega) M3.out (by have := HM.out; omega))
  have hr8 := Lib.hid (combR_small N xs ms)
  have hrr := Lib.hid (combR_range N xs ms)
  generalize combR N xs ms = r at *
  go_wp2_with fail
  refine (Calls.mono CB.out) ?_
  rintro e w4 ⟨G, g4, e4, r4, f4, b4⟩
  have hT : ∃ (T : Int × List Int) (q : Bool), r.getD (0, []) = T ∧ r.isSome = q := ⟨_, _, rfl, rfl⟩
  obtain ⟨T, q, hT, hq⟩ := hT
  rw [hT] at hr8 hrr r4 f4
  rw [hT, hq] at e4
  subst e4
  have a5 : Below w4.heap.size w4 (w4.alloc (Obj.cells #[Value.int IntKind.i64 T.1, Value.slice G T.2.length g4] 29)) := (Below.refl _ _).alloc (Nat.le_refl _) _
  have d5 : Below w3.heap.size w3 (w4.alloc (Obj.cells #[Value.int IntKind.i64 T.1, Value.slice G T.2.length g4] 29)) := b4.trans (a5.mono b4.size)
  have K5 := Lib.hid (K3.out.below d5)
  have La5 := Lib.hid (La3.out.below d5)
  have Lb5 := Lib.hid (Lb3.out.below d5)
  have Lc5 := Lib.hid (Lc3.out.below d5)
  have O5 := Lib.hid (O3.out.below d5)
  have V5 := Lib.hid (V3.out.below d5)
  have M5 := Lib.hid (M3.out.below d5)
  have VT5 := Lib.hid (Lvar.new w4 #[Value.int IntKind.i64 T.1, Value.slice G T.2.length g4] 29)
  have OT5 := Lib.hid (show IntK.Own w3.heap.size w4.heap.size (w4.alloc (Obj.cells #[Value.int IntKind.i64 T.1, Value.slice G T.2.length g4] 29)) G T.2 from ⟨r4.below a5, f4.below r4 (by rw [IntK.iv_len]; exact Nat.le_refl _) a5⟩)
  have hs5 := b4.size
  have HS5 := Lib.hid (show (w4.alloc (Obj.cells #[Value.int IntKind.i64 T.1, Value.slice G T.2.length g4] 29)).heap.size = w4.heap.size + 1 by simp)
  clear a5 d5 b4 r4 f4 K3 La3 Lb3 Lc3 O3 V3 M3 v0 v1 CB hT hq
  go_upto_region 5 with fail
  generalize (w4.alloc (Obj.cells #[Value.int IntKind.i64 T.1, Value.slice G T.2.length g4] 29)) = w5 at *
  have hs6 : w4.heap.size + 1 ≤ w5.heap.size := Nat.le_of_eq HS5.out.symm
  cases q with
  | false =>
    have v0 := V5.out.cell 0 (.int .i64 N) rfl
    have v1 := V5.out.cell 1 (.slice B xs.length d) rfl
    have TG := Lib.hid (target7 g A n c w1.heap.size w2.heap.size N B d xs HP.out w5.drew (K5.out.drew).1 (SysK.Own.below (w := w5) O5.out (Below.refl _ _).drew) (Or.inr hgl))
    have KS := Lib.hid (fun W' (h : Lvar W' w2.heap.size #[Value.int IntKind.i64 N, Value.slice B xs.length d]) => (show W'.cell? ⟨w2.heap.size, 0, none⟩ = some (.int .i64 N) ∧ W'.cell? ⟨w2.heap.size, 1, none⟩ = some (.slice B xs.length d) from ⟨h.cell 0 _ rfl, h.cell 1 _ rfl⟩))
    go_wp2_with fail
    go_region_held3 (fun W' => W'.cell? ⟨w2.heap.size, 0, none⟩ = some (.int .i64 N) ∧ W'.cell? ⟨w2.heap.size, 1, none⟩ = some (.slice B xs.length d))
      (first | with_reducible exact KS.out _ V7 | with_reducible exact KS.out _ V8 | with_reducible exact KS.out _ QA | with_reducible exact KS.out _ QB | with_reducible exact KS.out _ QC | with_reducible exact KS.out _ QAB | with_reducible exact KS.out _ QAC | with_reducible exact KS.out _ QBA | with_reducible exact KS.out _ QBC | with_reducible exact KS.out _ QCA | with_reducible exact KS.out _ QCB | with_reducible exact KS.out _ QABC | with_reducible exact KS.out _ QACB | with_reducible exact KS.out _ QBAC | with_reducible exact KS.out _ QBCA | with_reducible exact KS.out _ QCAB | with_reducible exact KS.out _ QCBA | go_keep)
      (first
        | (go_at_call 47; refine (Calls.mono TG.out) ?_; rintro e w8 ⟨z, zs, C, f, rfl, hz9, hO8, hK8⟩; (have m8 := hK8.2); (have V7 : Lvar w8 w2.heap.size #[Value.int IntKind.i64 N, Value.slice B xs.length d] := Lvar.keep (w := w5.drew) V5.out m8 (by omega)))
        | (go_at_call 48; refine (Calls.mono (below g A n c 3 (by omega) _ ((K5.out.drew).trans hK8).1)) ?_; rintro e w9 ⟨sc, hsc0, hsc1, _, rfl, hL9⟩; (have m9 := hL9.kept.2); (have V8 := V7.keep m9 (by omega)); (have hK9 := ((K5.out.drew).trans hK8).trans hL9.kept); (have hs9a : w5.heap.size ≤ w8.heap.size := m8.size); (have hs9b := m9.size); (have m89 : Mod g (g + 1) w5.drew w9 := m8.trans m9); (have LA8 := Lib.hid (show Lvar w9 w.heap.size #[Value.int IntKind.i64 0, Value.slice none 0 0] from Lvar.keep (w := w5.drew) La5.out m89 (by omega))); (have LB8 := Lib.hid (show Lvar w9 (w.heap.size + 1) #[Value.int IntKind.i64 0, Value.slice none 0 0] from Lvar.keep (w := w5.drew) Lb5.out m89 (by omega))); (have LC8 := Lib.hid (show Lvar w9 (w.heap.size + 2) #[Value.int IntKind.i64 0, Value.slice none 0 0] from Lvar.keep (w := w5.drew) Lc5.out m89 (by omega))); (have a0 := LA8.out.cell 0 (.int .i64 0) rfl); (have a1 := LA8.out.cell 1 (.slice none 0 0) rfl); (have i0 := LB8.out.cell 0 (.int .i64 0) rfl); (have i1 := LB8.out.cell 1 (.slice none 0 0) rfl); (have j0 := LC8.out.cell 0 (.int .i64 0) rfl); (have j1 := LC8.out.cell 1 (.slice none 0 0) rfl); (have a2 := LA8.out.frozen 0); (have a3 := LA8.out.frozen 1); (have i2 := LB8.out.frozen 0); (have i3 := LB8.out.frozen 1); (have j2 := LC8.out.frozen 0); (have j3 := LC8.out.frozen 1); (have QA := other01 (u := .int .i64 N) (v := .slice B xs.length d) (b := w.heap.size) V8 (by omega)); (have QB := other01 (u := .int .i64 z) (v := .slice C zs.length f) (b := w.heap.size + 1) V8 (by omega)); (have QC := other01 (u := .int .i64 sc) (v := .slice M ms.length e0) (b := w.heap.size + 2) V8 (by omega)); (have QAB := other01 (u := .int .i64 z) (v := .slice C zs.length f) (b := w.heap.size + 1) QA (by omega)); (have QAC := other01 (u := .int .i64 sc) (v := .slice M ms.length e0) (b := w.heap.size + 2) QA (by omega)); (have QBA := other01 (u := .int .i64 N) (v := .slice B xs.length d) (b := w.heap.size) QB (by omega)); (have QBC := other01 (u := .int .i64 sc) (v := .slice M ms.length e0) (b := w.heap.size + 2) QB (by omega)); (have QCA := other01 (u := .int .i64 N) (v := .slice B xs.length d) (b := w.heap.size) QC (by omega)); (have QCB := other01 (u := .int .i64 z) (v := .slice C zs.length f) (b := w.heap.size + 1) QC (by omega)); (have QABC := other01 (u := .int .i64 sc) (v := .slice M ms.length e0) (b := w.heap.size + 2) QAB (by omega)); (have QACB := other01 (u := .int .i64 z) (v := .slice C zs.length f) (b := w.heap.size + 1) QAC (by omega)); (have QBAC := other01 (u := .int .i64 sc) (v := .slice M ms.length e0) (b := w.heap.size + 2) QBA (by omega)); (have QBCA := other01 (u := .int .i64 N) (v := .slice B xs.length d) (b := w.heap.size) QBC (by omega)); (have QCAB := other01 (u := .int .i64 z) (v := .slice C zs.length f) (b := w.heap.size + 1) QCA (by omega)); (have QCBA := other01 (u := .int .i64 N) (v := .slice B xs.length d) (b := w.heap.size) QCB (by omega))))
    all_goals
      have HSY := Lib.hid (show SysK.Own w1.heap.size w2.heap.size w9 B xs.length d xs from SysK.Own.keep (w := w5.drew) O5.out m89 (by omega))
      have HMU := Lib.hid (show Row w2.heap.size w3.heap.size w9 M (IntK.iv ms) from Row.keep (w := w5.drew) (M5.out) m89 (by omega))
      have HLI := Lib.hid (show Row w5.heap.size w8.heap.size w9 C (IntK.iv zs) from Row.keep (lo := w5.heap.size) hO8.1 m9 (Or.inr (by omega)))
      have HZ := Lib.hid hz9
      have HBK := Lib.hid (kept_new B1.out (by omega) hK9)
      clear m8 m9 V7 V8 hK8 hK9 hL9 m89 hO8 TG KS QA QB QC QAB QAC QBA QBC QCA QCB QABC QACB QBAC QBCA QCAB QCBA
      go_wp2
      refine bodyPost_ret (v := .tuple #[.agg #[.int .i64 N, .slice B xs.length d], .agg #[.int .i64 z, .slice C zs.length f], .agg #[.int .i64 sc, .slice M ms.length e0]]) (by simp [results, Try.results11, go_sem, a0, a1, i0, i1, j0, j1]) rfl ⟨N, B, d, xs, z, zs, C, f, sc, ms, M, e0, _, _, _, _, rfl, HP.out, HZ.out, HM.out, (SysK.Own.keep (lo' := w.heap.size) (hi' := w.heap.size + 3) HSY.out ((((((Mod.set _ (by first | (simp; done) | (simp; omega)) (by first | (simp; done) | (simp; omega)) _).trans (Mod.set _ (by first | (simp; done) | (simp; omega)) (by first | (simp; done) | (simp; omega)) _)).trans (Mod.set _ (by first | (simp; done) | (simp; omega)) (by first | (simp; done) | (simp; omega)) _)).trans (Mod.set _ (by first | (simp; done) | (simp; omega)) (by first | (simp; done) | (simp; omega)) _)).trans (Mod.set _ (by first | (simp; done) | (simp; omega)) (by first | (simp; done) | (simp; omega)) _)).trans (Mod.set _ (by first | (simp; done) | (simp; omega)) (by first | (simp; done) | (simp; omega)) _)) (Or.inr (by omega))).arg, Row.keep (lo' := w.heap.size) (hi' := w.heap.size + 3) HLI.out ((((((Mod.set _ (by first | (simp; done) | (simp; omega)) (by first | (simp; done) | (simp; omega)) _).trans (Mod.set _ (by first | (simp; done) | (simp; omega)) (by first | (simp; done) | (simp; omega)) _)).trans (Mod.set _ (by first | (simp; done) | (simp; omega)) (by first | (simp; done) | (simp; omega)) _)).trans (Mod.set _ (by first | (simp; done) | (simp; omega)) (by first | (simp; done) | (simp; omega)) _)).trans (Mod.set _ (by first | (simp; done) | (simp; omega)) (by first | (simp; done) | (simp; omega)) _)).trans (Mod.set _ (by first | (simp; done) | (simp; omega)) (by first | (simp; done) | (simp; omega)) _)) (Or.inr (by omega)), Row.keep (lo' := w.heap.size) (hi' := w.heap.size + 3) HMU.out ((((((Mod.set _ (by first | (simp; done) | (simp; omega)) (by first | (simp; done) | (simp; omega)) _).trans (Mod.set _ (by first | (simp; done) | (simp; omega)) (by first | (simp; done) | (simp; omega)) _)).trans (Mod.set _ (by first | (simp; done) | (simp; omega)) (by first | (simp; done) | (simp; omega)) _)).trans (Mod.set _ (by first | (simp; done) | (simp; omega)) (by first | (simp; done) | (simp; omega)) _)).trans (Mod.set _ (by first | (simp; done) | (simp; omega)) (by first | (simp; done) | (simp; omega)) _)).trans (Mod.set _ (by first | (simp; done) | (simp; omega)) (by first | (simp; done) | (simp; omega)) _)) (Or.inr (by omega)), below_mod (lo := w.heap.size) (hi := w.heap.size + 3) HBK.out ((((((Mod.set _ (by first | (simp; done) | (simp; omega)) (by first | (simp; done) | (simp; omega)) _).trans (Mod.set _ (by first | (simp; done) | (simp; omega)) (by first | (simp; done) | (simp; omega)) _)).trans (Mod.set _ (by first | (simp; done) | (simp; omega)) (by first | (simp; done) | (simp; omega)) _)).trans (Mod.set _ (by first | (simp; done) | (simp; omega)) (by first | (simp; done) | (simp; omega)) _)).trans (Mod.set _ (by first | (simp; done) | (simp; omega)) (by first | (simp; done) | (simp; omega)) _)).trans (Mod.set _ (by first | (simp; done) | (simp; omega)) (by first | (simp; done) | (simp; omega)) _)) (Nat.le_refl _) HBK.out.size⟩
  | true =>
    go_wp2_with fail
    refine (once g A n c 3 (by omega) _ K5.out.1).mono ?_
    rintro e w7 ⟨q2, rfl, hL⟩
    have m7 := hL.kept.2
    have hs7 := m7.size
    have K7 := Lib.hid (K5.out.trans hL.kept)
    have La7 := Lib.hid (La5.out.keep m7 (by omega))
    have Lb7 := Lib.hid (Lb5.out.keep m7 (by omega))
    have Lc7 := Lib.hid (Lc5.out.keep m7 (by omega))
    have O7 := Lib.hid (O5.out.keep m7 (by omega))
    have V7x := Lib.hid (V5.out.keep m7 (by omega))
    have M7 := Lib.hid (M5.out.keep m7 (by omega))
    have VT7 := Lib.hid (VT5.out.keep m7 (by omega))
    have OT7 := Lib.hid (OT5.out.keep m7 (by omega))
    clear hL m7 K5 La5 Lb5 Lc5 O5 V5 M5 VT5 OT5
    cases q2 with
    | true =>
      have v0 := V7x.out.cell 0 (.int .i64 N) rfl
      have v1 := V7x.out.cell 1 (.slice B xs.length d) rfl
      have TG := Lib.hid (target7 g A n c w1.heap.size w2.heap.size N B d xs HP.out w7.drew (K7.out.drew).1 (SysK.Own.below (w := w7) O7.out (Below.refl _ _).drew) (Or.inr hgl))
      have KS := Lib.hid (fun W' (h : Lvar W' w2.heap.size #[Value.int IntKind.i64 N, Value.slice B xs.length d]) => (show W'.cell? ⟨w2.heap.size, 0, none⟩ = some (.int .i64 N) ∧ W'.cell? ⟨w2.heap.size, 1, none⟩ = some (.slice B xs.length d) from ⟨h.cell 0 _ rfl, h.cell 1 _ rfl⟩))
      go_wp2_with fail
      go_region_held3 (fun W' => W'.cell? ⟨w2.heap.size, 0, none⟩ = some (.int .i64 N) ∧ W'.cell? ⟨w2.heap.size, 1, none⟩ = some (.slice B xs.length d))
        (first | with_reducible exact KS.out _ V7 | with_reducible exact KS.out _ V8 | with_reducible exact KS.out _ QA | with_reducible exact KS.out _ QB | with_reducible exact KS.out _ QC | with_reducible exact KS.out _ QAB | with_reducible exact KS.out _ QAC | with_reducible exact KS.out _ QBA | with_reducible exact KS.out _ QBC | with_reducible exact KS.out _ QCA | with_reducible exact KS.out _ QCB | with_reducible exact KS.out _ QABC | with_reducible exact KS.out _ QACB | with_reducible exact KS.out _ QBAC | with_reducible exact KS.out _ QBCA | with_reducible exact KS.out _ QCAB | with_reducible exact KS.out _ QCBA | go_keep)
        (first
          | (go_at_call 47; refine (Calls.mono TG.out) ?_; rintro e w8 ⟨z, zs, C, f, rfl, hz9, hO8, hK8⟩; (have m8 := hK8.2); (have V7 : Lvar w8 w2.heap.size #[Value.int IntKind.i64 N, Value.slice B xs.length d] := Lvar.keep (w := w7.drew) V7x.out m8 (by omega)))
          | (go_at_call 48; refine (Calls.mono (below g A n c 3 (by omega) _ ((K7.out.drew).trans hK8).1)) ?_; rintro e w9 ⟨sc, hsc0, hsc1, _, rfl, hL9⟩; (have m9 := hL9.kept.2); (have V8 := V7.keep m9 (by omega)); (have hK9 := ((K7.out.drew).trans hK8).trans hL9.kept); (have hs9a : w7.heap.size ≤ w8.heap.size := m8.size); (have hs9b := m9.size); (have m89 : Mod g (g + 1) w7.drew w9 := m8.trans m9); (have LA8 := Lib.hid (show Lvar w9 w.heap.size #[Value.int IntKind.i64 0, Value.slice none 0 0] from Lvar.keep (w := w7.drew) La7.out m89 (by omega))); (have LB8 := Lib.hid (show Lvar w9 (w.heap.size + 1) #[Value.int IntKind.i64 0, Value.slice none 0 0] from Lvar.keep (w := w7.drew) Lb7.out m89 (by omega))); (have LC8 := Lib.hid (show Lvar w9 (w.heap.size + 2) #[Value.int IntKind.i64 0, Value.slice none 0 0] from Lvar.keep (w := w7.drew) Lc7.out m89 (by omega))); (have a0 := LA8.out.cell 0 (.int .i64 0) rfl); (have a1 := LA8.out.cell 1 (.slice none 0 0) rfl); (have i0 := LB8.out.cell 0 (.int .i64 0) rfl); (have i1 := LB8.out.cell 1 (.slice none 0 0) rfl); (have j0 := LC8.out.cell 0 (.int .i64 0) rfl); (have j1 := LC8.out.cell 1 (.slice none 0 0) rfl); (have a2 := LA8.out.frozen 0); (have a3 := LA8.out.frozen 1); (have i2 := LB8.out.frozen 0); (have i3 := LB8.out.frozen 1); (have j2 := LC8.out.frozen 0); (have j3 := LC8.out.frozen 1); (have QA := other01 (u := .int .i64 N) (v := .slice B xs.length d) (b := w.heap.size) V8 (by omega)); (have QB := other01 (u := .int .i64 z) (v := .slice C zs.length f) (b := w.heap.size + 1) V8 (by omega)); (have QC := other01 (u := .int .i64 sc) (v := .slice M ms.length e0) (b := w.heap.size + 2) V8 (by omega)); (have QAB := other01 (u := .int .i64 z) (v := .slice C zs.length f) (b := w.heap.size + 1) QA (by omega)); (have QAC := other01 (u := .int .i64 sc) (v := .slice M ms.length e0) (b := w.heap.size + 2) QA (by omega)); (have QBA := other01 (u := .int .i64 N) (v := .slice B xs.length d) (b := w.heap.size) QB (by omega)); (have QBC := other01 (u := .int .i64 sc) (v := .slice M ms.length e0) (b := w.heap.size + 2) QB (by omega)); (have QCA := other01 (u := .int .i64 N) (v := .slice B xs.length d) (b := w.heap.size) QC (by omega)); (have QCB := other01 (u := .int .i64 z) (v := .slice C zs.length f) (b := w.heap.size + 1) QC (by omega)); (have QABC := other01 (u := .int .i64 sc) (v := .slice M ms.length e0) (b := w.heap.size + 2) QAB (by omega)); (have QACB := other01 (u := .int .i64 z) (v := .slice C zs.length f) (b := w.heap.size + 1) QAC (by omega)); (have QBAC := other01 (u := .int .i64 sc) (v := .slice M ms.length e0) (b := w.heap.size + 2) QBA (by omega)); (have QBCA := other01 (u := .int .i64 N) (v := .slice B xs.length d) (b := w.heap.size) QBC (by omega)); (have QCAB := other01 (u := .int .i64 z) (v := .slice C zs.length f) (b := w.heap.size + 1) QCA (by omega)); (have QCBA := other01 (u := .int .i64 N) (v := .slice B xs.length d) (b := w.heap.size) QCB (by omega))))
      all_goals
        have HSY := Lib.hid (show SysK.Own w1.heap.size w2.heap.size w9 B xs.length d xs from SysK.Own.keep (w := w7.drew) O7.out m89 (by omega))
        have HMU := Lib.hid (show Row w2.heap.size w3.heap.size w9 M (IntK.iv ms) from Row.keep (w := w7.drew) (M7.out) m89 (by omega))
        have HLI := Lib.hid (show Row w7.heap.size w8.heap.size w9 C (IntK.iv zs) from Row.keep (lo := w7.heap.size) hO8.1 m9 (Or.inr (by omega)))
        have HZ := Lib.hid hz9
        have HBK := Lib.hid (kept_new B1.out (by omega) hK9)
        clear m8 m9 V7 V8 hK8 hK9 hL9 m89 hO8 TG KS QA QB QC QAB QAC QBA QBC QCA QCB QABC QACB QBAC QBCA QCAB QCBA
        go_wp2
        refine bodyPost_ret (v := .tuple #[.agg #[.int .i64 N, .slice B xs.length d], .agg #[.int .i64 z, .slice C zs.length f], .agg #[.int .i64 sc, .slice M ms.length e0]]) (by simp [results, Try.results11, go_sem, a0, a1, i0, i1, j0, j1]) rfl ⟨N, B, d, xs, z, zs, C, f, sc, ms, M, e0, _, _, _, _, rfl, HP.out, HZ.out, HM.out, (SysK.Own.keep (lo' := w.heap.size) (hi' := w.heap.size + 3) HSY.out ((((((Mod.set _ (by first | (simp; done) | (simp; omega)) (by first | (simp; done) | (simp; omega)) _).trans (Mod.set _ (by first | (simp; done) | (simp; omega)) (by first | (simp; done) | (simp; omega)) _)).trans (Mod.set _ (by first | (simp; done) | (simp; omega)) (by first | (simp; done) | (simp; omega)) _)).trans (Mod.set _ (by first | (simp; done) | (simp; omega)) (by first | (simp; done) | (simp; omega)) _)).trans (Mod.set _ (by first | (simp; done) | (simp; omega)) (by first | (simp; done) | (simp; omega)) _)).trans (Mod.set _ (by first | (simp; done) | (simp; omega)) (by first | (simp; done) | (simp; omega)) _)) (Or.inr (by omega))).arg, Row.keep (lo' := w.heap.size) (hi' := w.heap.size + 3) HLI.out ((((((Mod.set _ (by first | (simp; done) | (simp; omega)) (by first | (simp; done) | (simp; omega)) _).trans (Mod.set _ (by first | (simp; done) | (simp; omega)) (by first | (simp; done) | (simp; omega)) _)).trans (Mod.set _ (by first | (simp; done) | (simp; omega)) (by first | (simp; done) | (simp; omega)) _)).trans (Mod.set _ (by first | (simp; done) | (simp; omega)) (by first | (simp; done) | (simp; omega)) _)).trans (Mod.set _ (by first | (simp; done) | (simp; omega)) (by first | (simp; done) | (simp; omega)) _)).trans (Mod.set _ (by first | (simp; done) | (simp; omega)) (by first | (simp; done) | (simp; omega)) _)) (Or.inr (by omega)), Row.keep (lo' := w.heap.size) (hi' := w.heap.size + 3) HMU.out ((((((Mod.set _ (by first | (simp; done) | (simp; omega)) (by first | (simp; done) | (simp; omega)) _).trans (Mod.set _ (by first | (simp; done) | (simp; omega)) (by first | (simp; done) | (simp; omega)) _)).trans (Mod.set _ (by first | (simp; done) | (simp; omega)) (by first | (simp; done) | (simp; omega)) _)).trans (Mod.set _ (by first | (simp; done) | (simp; omega)) (by first | (simp; done) | (simp; omega)) _)).trans (Mod.set _ (by first | (simp; done) | (simp; omega)) (by first | (simp; done) | (simp; omega)) _)).trans (Mod.set _ (by first | (simp; done) | (simp; omega)) (by first | (simp; done) | (simp; omega)) _)) (Or.inr (by omega)), below_mod (lo := w.heap.size) (hi := w.heap.size + 3) HBK.out ((((((Mod.set _ (by first | (simp; done) | (simp; omega)) (by first | (simp; done) | (simp; omega)) _).trans (Mod.set _ (by first | (simp; done) | (simp; omega)) (by first | (simp; done) | (simp; omega)) _)).trans (Mod.set _ (by first | (simp; done) | (simp; omega)) (by first | (simp; done) | (simp; omega)) _)).trans (Mod.set _ (by first | (simp; done) | (simp; omega)) (by first | (simp; done) | (simp; omega)) _)).trans (Mod.set _ (by first | (simp; done) | (simp; omega)) (by first | (simp; done) | (simp; omega)) _)).trans (Mod.set _ (by first | (simp; done) | (simp; omega)) (by first | (simp; done) | (simp; omega)) _)) (Nat.le_refl _) HBK.out.size⟩
    | false =>
      have hrng := hrr.out
      have t0 := VT7.out.cell 0 (.int .i64 T.1) rfl
      go_wp2_with fail
      go_region_law (first
        | (go_simp; go_at_call 48; refine (Calls.mono (below g A n c 3 (by omega) _ (K7.out.drew).1)) ?_; rintro e w8 ⟨y, hy0, hy1, _, rfl, hL8⟩; (have hy2 := hy1 (by omega)); (have hw1 : IntKind.i64.wrap (T.1 + y) = T.1 + y := IntWalk.i64_in _ (by omega)); (have hw2 : IntKind.i64.wrap (T.1 + y - 1) = T.1 + y - 1 := IntWalk.i64_in _ (by omega)); (have m8 := hL8.kept.2); (have VT8 : Lvar w8 w4.heap.size #[Value.int IntKind.i64 T.1, Value.slice G T.2.length g4] := Lvar.keep (w := w7.drew) VT7.out m8 (by omega)); (have t80 := VT8.cell 0 (.int .i64 T.1) rfl); (have f80 := VT8.frozen 0)))
      all_goals
        have K8 := K7.out.drew.trans hL8.kept
        have hs8 : w7.heap.size ≤ w8.heap.size := m8.size
        have La8 : Lvar w8 w.heap.size #[Value.int IntKind.i64 0, Value.slice none 0 0] := Lvar.keep (w := w7.drew) La7.out m8 (by omega)
        have Lb8 : Lvar w8 (w.heap.size + 1) #[Value.int IntKind.i64 0, Value.slice none 0 0] := Lvar.keep (w := w7.drew) Lb7.out m8 (by omega)
        have Lc8 : Lvar w8 (w.heap.size + 2) #[Value.int IntKind.i64 0, Value.slice none 0 0] := Lvar.keep (w := w7.drew) Lc7.out m8 (by omega)
        have O8 : SysK.Own w1.heap.size w2.heap.size w8 B xs.length d xs := SysK.Own.keep (w := w7.drew) O7.out m8 (by omega)
        have V8 : Lvar w8 w2.heap.size #[Value.int IntKind.i64 N, Value.slice B xs.length d] := Lvar.keep (w := w7.drew) V7x.out m8 (by omega)
        have M8 : Row w2.heap.size w3.heap.size w8 M (IntK.iv ms) := Row.keep (w := w7.drew) M7.out m8 (by omega)
        have hv9 := VT8.set 0 (.int .i64 (T.1 + y - 1))
        have VT9 := Lib.hid (show Lvar (w8.setCell ⟨w4.heap.size, 0, none⟩ (.int .i64 (T.1 + y - 1))) w4.heap.size #[.int .i64 (T.1 + y - 1), .slice G T.2.length g4] by simpa using hv9)
        have m9 : Mod w4.heap.size (w4.heap.size + 1) w8 (w8.setCell ⟨w4.heap.size, 0, none⟩ (.int .i64 (T.1 + y - 1))) := Mod.set _ (p := ⟨w4.heap.size, 0, none⟩) (Nat.le_refl _) (Nat.lt_succ_self _) _
        have HBK := Lib.hid (kept_new B1.out (by omega) (K8.set (w := w1) hgl (p := ⟨w4.heap.size, 0, none⟩) (by show w1.heap.size ≤ w4.heap.size; omega) (.int .i64 (T.1 + y - 1))))
        have LA9 := Lib.hid (La8.keep m9 (by omega))
        have LB9 := Lib.hid (Lb8.keep m9 (by omega))
        have LC9 := Lib.hid (Lc8.keep m9 (by omega))
        have HSY := Lib.hid (O8.keep m9 (by omega))
        have V9 := Lib.hid (V8.keep m9 (by omega))
        have OT8 : IntK.Own w3.heap.size w4.heap.size w8 G T.2 := IntK.Own.keep (w := w7.drew) OT7.out m8 (by omega)
        have HLI := Lib.hid (show Row w3.heap.size w4.heap.size _ G (IntK.iv T.2) from (OT8.keep m9 (by omega)).1)
        have HMU := Lib.hid (M8.keep m9 (by omega))
        have HZ := Lib.hid (show T.2.length ≤ 9 by have := hr8.out; omega)
        have hs9 : (w8.setCell ⟨w4.heap.size, 0, none⟩ (.int .i64 (T.1 + y - 1))).heap.size = w8.heap.size := by simp [World.setCell]
        have HS9 := Lib.hid hs9
        clear hv9 m9 K8 La8 Lb8 Lc8 O8 V8 OT8 M8 hL8 m8 VT8 t80 f80 t0 hs9
        go_upto_region 8 with fail
        generalize w8.setCell ⟨w4.heap.size, 0, none⟩ (.int .i64 (T.1 + y - 1)) = w9 at *
        have hs9 : w8.heap.size ≤ w9.heap.size := Nat.le_of_eq HS9.out.symm
        have KS := Lib.hid (fun W' (h : Lvar W' w2.heap.size #[Value.int IntKind.i64 N, Value.slice B xs.length d]) (h2 : Lvar W' w4.heap.size #[.int .i64 (T.1 + y - 1), .slice G T.2.length g4]) => (show W'.cell? ⟨w2.heap.size, 0, none⟩ = some (.int .i64 N) ∧ W'.cell? ⟨w2.heap.size, 1, none⟩ = some (.slice B xs.length d) ∧ W'.cell? ⟨w4.heap.size, 0, none⟩ = some (.int .i64 (T.1 + y - 1)) ∧ W'.cell? ⟨w4.heap.size, 1, none⟩ = some (.slice G T.2.length g4) from ⟨h.cell 0 _ rfl, h.cell 1 _ rfl, h2.cell 0 _ rfl, h2.cell 1 _ rfl⟩))
        have a0 := LA9.out.cell 0 (.int .i64 0) rfl
        have a1 := LA9.out.cell 1 (.slice none 0 0) rfl
        have i0 := LB9.out.cell 0 (.int .i64 0) rfl
        have i1 := LB9.out.cell 1 (.slice none 0 0) rfl
        have j0 := LC9.out.cell 0 (.int .i64 0) rfl
        have j1 := LC9.out.cell 1 (.slice none 0 0) rfl
        have a2 := LA9.out.frozen 0
        have a3 := LA9.out.frozen 1
        have i2 := LB9.out.frozen 0
        have i3 := LB9.out.frozen 1
        have j2 := LC9.out.frozen 0
        have j3 := LC9.out.frozen 1
        have V9 := V9.out
        have VT9 := VT9.out
        have QVA := other01 (u := .int .i64 N) (v := .slice B xs.length d) (b := w.heap.size) V9 (by omega)
        have QVB := other01 (u := .int .i64 (T.1 + y - 1)) (v := .slice G T.2.length g4) (b := w.heap.size + 1) V9 (by omega)
        have QVC := other01 (u := .int .i64 1) (v := .slice M ms.length e0) (b := w.heap.size + 2) V9 (by omega)
        have QVAB := other01 (u := .int .i64 (T.1 + y - 1)) (v := .slice G T.2.length g4) (b := w.heap.size + 1) QVA (by omega)
        have QVAC := other01 (u := .int .i64 1) (v := .slice M ms.length e0) (b := w.heap.size + 2) QVA (by omega)
        have QVBA := other01 (u := .int .i64 N) (v := .slice B xs.length d) (b := w.heap.size) QVB (by omega)
        have QVBC := other01 (u := .int .i64 1) (v := .slice M ms.length e0) (b := w.heap.size + 2) QVB (by omega)
        have QVCA := other01 (u := .int .i64 N) (v := .slice B xs.length d) (b := w.heap.size) QVC (by omega)
        have QVCB := other01 (u := .int .i64 (T.1 + y - 1)) (v := .slice G T.2.length g4) (b := w.heap.size + 1) QVC (by omega)
        have QVABC := other01 (u := .int .i64 1) (v := .slice M ms.length e0) (b := w.heap.size + 2) QVAB (by omega)
        have QVACB := other01 (u := .int .i64 (T.1 + y - 1)) (v := .slice G T.2.length g4) (b := w.heap.size + 1) QVAC (by omega)
        have QVBAC := other01 (u := .int .i64 1) (v := .slice M ms.length e0) (b := w.heap.size + 2) QVBA (by omega)
        have QVBCA := other01 (u := .int .i64 N) (v := .slice B xs.length d) (b := w.heap.size) QVBC (by omega)
        have QVCAB := other01 (u := .int .i64 (T.1 + y - 1)) (v := .slice G T.2.length g4) (b := w.heap.size + 1) QVCA (by omega)
        have QVCBA := other01 (u := .int .i64 N) (v := .slice B xs.length d) (b := w.heap.size) QVCB (by omega)
        have QTA := other01 (u := .int .i64 N) (v := .slice B xs.length d) (b := w.heap.size) VT9 (by omega)
        have QTB := other01 (u := .int .i64 (T.1 + y - 1)) (v := .slice G T.2.length g4) (b := w.heap.size + 1) VT9 (by omega)
        have QTC := other01 (u := .int .i64 1) (v := .slice M ms.length e0) (b := w.heap.size + 2) VT9 (by omega)
        have QTAB := other01 (u := .int .i64 (T.1 + y - 1)) (v := .slice G T.2.length g4) (b := w.heap.size + 1) QTA (by omega)
        have QTAC := other01 (u := .int .i64 1) (v := .slice M ms.length e0) (b := w.heap.size + 2) QTA (by omega)
        have QTBA := other01 (u := .int .i64 N) (v := .slice B xs.length d) (b := w.heap.size) QTB (by omega)
        have QTBC := other01 (u := .int .i64 1) (v := .slice M ms.length e0) (b := w.heap.size + 2) QTB (by omega)
        have QTCA := other01 (u := .int .i64 N) (v := .slice B xs.length d) (b := w.heap.size) QTC (by omega)
        have QTCB := other01 (u := .int .i64 (T.1 + y - 1)) (v := .slice G T.2.length g4) (b := w.heap.size + 1) QTC (by omega)
        have QTABC := other01 (u := .int .i64 1) (v := .slice M ms.length e0) (b := w.heap.size + 2) QTAB (by omega)
        have QTACB := other01 (u := .int .i64 (T.1 + y - 1)) (v := .slice G T.2.length g4) (b := w.heap.size + 1) QTAC (by omega)
        have QTBAC := other01 (u := .int .i64 1) (v := .slice M ms.length e0) (b := w.heap.size + 2) QTBA (by omega)
        have QTBCA := other01 (u := .int .i64 N) (v := .slice B xs.length d) (b := w.heap.size) QTBC (by omega)
        have QTCAB := other01 (u := .int .i64 (T.1 + y - 1)) (v := .slice G T.2.length g4) (b := w.heap.size + 1) QTCA (by omega)
        have QTCBA := other01 (u := .int .i64 N) (v := .slice B xs.length d) (b := w.heap.size) QTCB (by omega)
        have DV9 := (V9).below (Below.refl _ _).drew
        have DQVA := (QVA).below (Below.refl _ _).drew
        have DQVB := (QVB).below (Below.refl _ _).drew
        have DQVC := (QVC).below (Below.refl _ _).drew
        have DQVAB := (QVAB).below (Below.refl _ _).drew
        have DQVAC := (QVAC).below (Below.refl _ _).drew
        have DQVBA := (QVBA).below (Below.refl _ _).drew
        have DQVBC := (QVBC).below (Below.refl _ _).drew
        have DQVCA := (QVCA).below (Below.refl _ _).drew
        have DQVCB := (QVCB).below (Below.refl _ _).drew
        have DQVABC := (QVABC).below (Below.refl _ _).drew
        have DQVACB := (QVACB).below (Below.refl _ _).drew
        have DQVBAC := (QVBAC).below (Below.refl _ _).drew
        have DQVBCA := (QVBCA).below (Below.refl _ _).drew
        have DQVCAB := (QVCAB).below (Below.refl _ _).drew
        have DQVCBA := (QVCBA).below (Below.refl _ _).drew
        have DVT9 := (VT9).below (Below.refl _ _).drew
        have DQTA := (QTA).below (Below.refl _ _).drew
        have DQTB := (QTB).below (Below.refl _ _).drew
        have DQTC := (QTC).below (Below.refl _ _).drew
        have DQTAB := (QTAB).below (Below.refl _ _).drew
        have DQTAC := (QTAC).below (Below.refl _ _).drew
        have DQTBA := (QTBA).below (Below.refl _ _).drew
        have DQTBC := (QTBC).below (Below.refl _ _).drew
        have DQTCA := (QTCA).below (Below.refl _ _).drew
        have DQTCB := (QTCB).below (Below.refl _ _).drew
        have DQTABC := (QTABC).below (Below.refl _ _).drew
        have DQTACB := (QTACB).below (Below.refl _ _).drew
        have DQTBAC := (QTBAC).below (Below.refl _ _).drew
        have DQTBCA := (QTBCA).below (Below.refl _ _).drew
        have DQTCAB := (QTCAB).below (Below.refl _ _).drew
        have DQTCBA := (QTCBA).below (Below.refl _ _).drew
        obtain ⟨k0, k1, k2, k3⟩ := KS.out _ DV9 DVT9
        go_region_held3 (fun W' => W'.cell? ⟨w2.heap.size, 0, none⟩ = some (.int .i64 N) ∧ W'.cell? ⟨w2.heap.size, 1, none⟩ = some (.slice B xs.length d) ∧ W'.cell? ⟨w4.heap.size, 0, none⟩ = some (.int .i64 (T.1 + y - 1)) ∧ W'.cell? ⟨w4.heap.size, 1, none⟩ = some (.slice G T.2.length g4))
          (first | with_reducible exact KS.out _ DV9 DVT9 | with_reducible exact KS.out _ DQVA DQTA | with_reducible exact KS.out _ DQVB DQTB | with_reducible exact KS.out _ DQVC DQTC | with_reducible exact KS.out _ DQVAB DQTAB | with_reducible exact KS.out _ DQVAC DQTAC | with_reducible exact KS.out _ DQVBA DQTBA | with_reducible exact KS.out _ DQVBC DQTBC | with_reducible exact KS.out _ DQVCA DQTCA | with_reducible exact KS.out _ DQVCB DQTCB | with_reducible exact KS.out _ DQVABC DQTABC | with_reducible exact KS.out _ DQVACB DQTACB | with_reducible exact KS.out _ DQVBAC DQTBAC | with_reducible exact KS.out _ DQVBCA DQTBCA | with_reducible exact KS.out _ DQVCAB DQTCAB | with_reducible exact KS.out _ DQVCBA DQTCBA | go_keep)
          (fail)
        all_goals
          clear KS V9 VT9 QVA QVB QVC QVAB QVAC QVBA QVBC QVCA QVCB QVABC QVACB QVBAC QVBCA QVCAB QVCBA QTA QTB QTC QTAB QTAC QTBA QTBC QTCA QTCB QTABC QTACB QTBAC QTBCA QTCAB QTCBA DV9 DQVA DQVB DQVC DQVAB DQVAC DQVBA DQVBC DQVCA DQVCB DQVABC DQVACB DQVBAC DQVBCA DQVCAB DQVCBA DVT9 DQTA DQTB DQTC DQTAB DQTAC DQTBA DQTBC DQTCA DQTCB DQTABC DQTACB DQTBAC DQTBCA DQTCAB DQTCBA k0 k1 k2 k3
          go_wp2
          refine bodyPost_ret (v := .tuple #[.agg #[.int .i64 N, .slice B xs.length d], .agg #[.int .i64 (T.1 + y - 1), .slice G T.2.length g4], .agg #[.int .i64 1, .slice M ms.length e0]]) (by simp [results, Try.results11, go_sem, a0, a1, i0, i1, j0, j1]) rfl ⟨N, B, d, xs, (T.1 + y - 1), T.2, G, g4, 1, ms, M, e0, _, _, _, _, rfl, HP.out, HZ.out, HM.out, (SysK.Own.keep (lo' := w.heap.size) (hi' := w.heap.size + 3) HSY.out (Mod.drew ((((((Mod.set _ (by first | (simp; done) | (simp; omega)) (by first | (simp; done) | (simp; omega)) _).trans (Mod.set _ (by first | (simp; done) | (simp; omega)) (by first | (simp; done) | (simp; omega)) _)).trans (Mod.set _ (by first | (simp; done) | (simp; omega)) (by first | (simp; done) | (simp; omega)) _)).trans (Mod.set _ (by first | (simp; done) | (simp; omega)) (by first | (simp; done) | (simp; omega)) _)).trans (Mod.set _ (by first | (simp; done) | (simp; omega)) (by first | (simp; done) | (simp; omega)) _)).trans (Mod.set _ (by first | (simp; done) | (simp; omega)) (by first | (simp; done) | (simp; omega)) _))) (Or.inr (by omega))).arg, Row.keep (lo' := w.heap.size) (hi' := w.heap.size + 3) HLI.out (Mod.drew ((((((Mod.set _ (by first | (simp; done) | (simp; omega)) (by first | (simp; done) | (simp; omega)) _).trans (Mod.set _ (by first | (simp; done) | (simp; omega)) (by first | (simp; done) | (simp; omega)) _)).trans (Mod.set _ (by first | (simp; done) | (simp; omega)) (by first | (simp; done) | (simp; omega)) _)).trans (Mod.set _ (by first | (simp; done) | (simp; omega)) (by first | (simp; done) | (simp; omega)) _)).trans (Mod.set _ (by first | (simp; done) | (simp; omega)) (by first | (simp; done) | (simp; omega)) _)).trans (Mod.set _ (by first | (simp; done) | (simp; omega)) (by first | (simp; done) | (simp; omega)) _))) (Or.inr (by omega)), Row.keep (lo' := w.heap.size) (hi' := w.heap.size + 3) HMU.out (Mod.drew ((((((Mod.set _ (by first | (simp; done) | (simp; omega)) (by first | (simp; done) | (simp; omega)) _).trans (Mod.set _ (by first | (simp; done) | (simp; omega)) (by first | (simp; done) | (simp; omega)) _)).trans (Mod.set _ (by first | (simp; done) | (simp; omega)) (by first | (simp; done) | (simp; omega)) _)).trans (Mod.set _ (by first | (simp; done) | (simp; omega)) (by first | (simp; done) | (simp; omega)) _)).trans (Mod.set _ (by first | (simp; done) | (simp; omega)) (by first | (simp; done) | (simp; omega)) _)).trans (Mod.set _ (by first | (simp; done) | (simp; omega)) (by first | (simp; done) | (simp; omega)) _))) (Or.inr (by omega)), below_mod (lo := w.heap.size) (hi := w.heap.size + 3) HBK.out (Mod.drew ((((((Mod.set _ (by first | (simp; done) | (simp; omega)) (by first | (simp; done) | (simp; omega)) _).trans (Mod.set _ (by first | (simp; done) | (simp; omega)) (by first | (simp; done) | (simp; omega)) _)).trans (Mod.set _ (by first | (simp; done) | (simp; omega)) (by first | (simp; done) | (simp; omega)) _)).trans (Mod.set _ (by first | (simp; done) | (simp; omega)) (by first | (simp; done) | (simp; omega)) _)).trans (Mod.set _ (by first | (simp; done) | (simp; omega)) (by first | (simp; done) | (simp; omega)) _)).trans (Mod.set _ (by first | (simp; done) | (simp; omega)) (by first | (simp; done) | (simp; omega)) _))) (Nat.le_refl _) HBK.out.size⟩

end Draw
end Go.Proofs.Ytnbgmhlhbcoicaa
