import Derived.Test.YtnbgmhlhbcoicaaDraw7b
import Derived.Test.YtnbgmhlhbcoicaaDraw6d
import Derived.Test.YtnbgmhlhbcoicaaFarkSpec
import Derived.Test.YtnbgmhlhbcoicaaFarkMath2
/-
  The draws of the seventh chapter: a target.
-/
namespace Go.Proofs.Ytnbgmhlhbcoicaa
open Go.RowKit
namespace Draw
open RowK Mem LinM FarkM

/-- A linear expression in new memory. -/
def SomeLin7 (w : World) (g : Nat) (A : Option Addr) (n c : Nat) (e : Ending) (w' : World) : Prop :=
  ∃ (z : Int) (zs : List Int) (C : Option Addr) (d : Nat), e = .returned (.agg #[.int .i64 z, .slice C zs.length d]) ∧ zs.length ≤ 9 ∧ IntK.Own w.heap.size w'.heap.size w' C zs ∧ Kept w g A n c w'
/-- Behind a statement that lays a combination into a new variable, beside a bool. -/
def AfterT (w : World) (g : Nat) (A : Option Addr) (n c : Nat) (s t : Value) (wx : World) : Prop :=
  ∃ (T : Int × List Int) (q : Bool) (b : Nat) (B : Option Addr) (d : Nat), s = .pointer (some ⟨b, 0, none⟩) ∧ t = .bool q ∧ T.2.length ≤ 8 ∧ (-1000000000 ≤ T.1 ∧ T.1 ≤ 1000000000) ∧ w.heap.size ≤ b ∧ Lvar wx b #[.int .i64 T.1, .slice B T.2.length d] ∧ Kept w g A n c wx ∧ ∃ lo hi, IntK.Own lo hi wx B T.2 ∧ w.heap.size ≤ lo ∧ hi ≤ wx.heap.size ∧ (b < lo ∨ hi ≤ b)
theorem afterT_new {w w5 : World} {g n c : Nat} {A : Option Addr} {T : Int × List Int} {q : Bool} {lo d : Nat} {B : Option Addr} {t : TypeId} (h8 : T.2.length ≤ 8) (hr : -1000000000 ≤ T.1 ∧ T.1 ≤ 1000000000) (hd : Kept w g A n c w5) (r : Row lo w5.heap.size w5 B (IntK.iv T.2)) (f : Free w5 B T.2.length) (hlo : w.heap.size ≤ lo) :
    AfterT w g A n c (.pointer (some ⟨w5.heap.size, 0, none⟩)) (.bool q) (w5.alloc (Obj.cells #[.int .i64 T.1, .slice B T.2.length d] t)) := by
  have b : Below w5.heap.size w5 (w5.alloc (Obj.cells #[.int .i64 T.1, .slice B T.2.length d] t)) := (Below.refl _ _).alloc (Nat.le_refl _) _
  have f' := f.below r (by rw [IntK.iv_len]; exact Nat.le_refl _) b
  exact ⟨T, q, _, B, d, rfl, rfl, h8, hr, hd.2.size, Lvar.new _ _ _, hd.alloc _, lo, w5.heap.size, ⟨r.below b, f'⟩, hlo, b.size, Or.inr (Nat.le_refl _)⟩
theorem afterT_old {w w5 : World} {g n c : Nat} {A : Option Addr} {T : Int × List Int} {q : Bool} {lo d b : Nat} {B : Option Addr} {x y : Value} (h8 : T.2.length ≤ 8) (hr : -1000000000 ≤ T.1 ∧ T.1 ≤ 1000000000) (hgl : g < w.heap.size) (hd : Kept w g A n c w5) (v : Lvar w5 b #[x, y]) (r : Row lo w5.heap.size w5 B (IntK.iv T.2)) (f : Free w5 B T.2.length) (hb : w.heap.size ≤ b) (hlo : b < lo) :
    AfterT w g A n c (.pointer (some ⟨b, 0, none⟩)) (.bool q) ((w5.setCell ⟨b, 0, none⟩ (.int .i64 T.1)).setCell ⟨b, 1, none⟩ (.slice B T.2.length d)) := by
  have m : Mod b (b + 1) w5 ((w5.setCell ⟨b, 0, none⟩ (.int .i64 T.1)).setCell ⟨b, 1, none⟩ (.slice B T.2.length d)) := (Mod.set _ (p := ⟨b, 0, none⟩) (Nat.le_refl _) (Nat.lt_succ_self _) _).trans (Mod.set _ (p := ⟨b, 1, none⟩) (Nat.le_refl _) (Nat.lt_succ_self _) _)
  have hv := (v.set 0 (.int .i64 T.1)).set 1 (.slice B T.2.length d)
  have f' := f.keep r (by rw [IntK.iv_len]; exact Nat.le_refl _) m (Or.inr hlo)
  have r' := r.keep m (Or.inr hlo)
  exact ⟨T, q, b, B, d, rfl, rfl, h8, hr, hb, by simpa using hv, (hd.set hgl hb _).set hgl hb _, lo, w5.heap.size, ⟨r', f'⟩, by omega, m.size, Or.inl hlo⟩

theorem new_keep {W u4 : World} {g n c : Nat} {A : Option Addr} {cs : Array Value} {T : TypeId} (hgW : g < W.heap.size) (hK4 : Kept ((W.alloc (Obj.cells cs T)).drew) g A n c u4) : Lvar u4 W.heap.size cs := ((Lvar.new W _ _).below (Below.refl _ _).drew).keep hK4.2 (Or.inr hgW)
set_option maxHeartbeats 4000000 in
set_option maxRecDepth 100000 in
theorem target7 (g : Nat) (A : Option Addr) (n c lo hi : Nat) (N : Int) (B : Option Addr) (d : Nat) (xs : List (Int × List Int)) (hP : Any6 N xs) (w : World) (hC : Cur w g A n c) (hO : SysK.Own lo hi w B xs.length d xs) (hg : hi ≤ g ∨ g + 1 ≤ lo) :
    Calls Try.prog 47 #[.pointer (some ⟨g, 0, none⟩), .agg #[.int .i64 N, .slice B xs.length d]] w (SomeLin7 w g A n c) := by
  have hgl := hC.lt
  have hsz : linsSize xs ≤ 1000 := by
    have h1 := linsSize_le (m := 9) hP.2.2
    have := hP.2.1
    omega
  have hx24 := hP.2.1
  have a0 : Below w.heap.size w ((w.alloc (Obj.cells #[Value.int IntKind.i64 N, Value.slice B xs.length d] 26)).alloc (Obj.cells #[Value.int IntKind.i64 0, Value.slice none 0 0] 29)) := ((Below.refl _ _).alloc (Nat.le_refl _) _).alloc (by simp) _
  have V0 := Lib.hid ((Lvar.new w #[Value.int IntKind.i64 N, Value.slice B xs.length d] 26).alloc (Obj.cells #[Value.int IntKind.i64 0, Value.slice none 0 0] 29))
  have Z0 := Lib.hid (new1 w (Obj.cells #[Value.int IntKind.i64 N, Value.slice B xs.length d] 26) #[Value.int IntKind.i64 0, Value.slice none 0 0] 29)
  have KW := Lib.hid (((kept_refl hC).alloc (Obj.cells #[Value.int IntKind.i64 N, Value.slice B xs.length d] 26)).alloc (Obj.cells #[Value.int IntKind.i64 0, Value.slice none 0 0] 29))
  have O0 := Lib.hid (hO.below a0)
  have hs0 : ((w.alloc (Obj.cells #[Value.int IntKind.i64 N, Value.slice B xs.length d] 26)).alloc (Obj.cells #[Value.int IntKind.i64 0, Value.slice none 0 0] 29)).heap.size = w.heap.size + 2 := by simp
  have HS0 := Lib.hid hs0
  clear a0 hO hs0 hP
  go_enter Try.func47, Try.ntmps47
  go_upto_region 1 with fail
  generalize ((w.alloc (Obj.cells #[Value.int IntKind.i64 N, Value.slice B xs.length d] 26)).alloc (Obj.cells #[Value.int IntKind.i64 0, Value.slice none 0 0] 29)) = W at *
  have hs0 : w.heap.size + 2 ≤ W.heap.size := Nat.le_of_eq HS0.out.symm
  have HK := Lib.hid (kept_refl KW.out.1)
  have KS := Lib.hid (fun W' (h : Kept W g A n c W') => (show W'.cell? ⟨w.heap.size, 0, none⟩ = some (Value.int .i64 N) ∧ W'.cell? ⟨w.heap.size, 1, none⟩ = some (Value.slice B xs.length d) from ⟨(V0.out.keep h.2 (by omega)).cell 0 _ rfl, (V0.out.keep h.2 (by omega)).cell 1 _ rfl⟩))
  have SA := Lib.hid (fun W' (h : Kept W g A n c W') => (O0.out.keep h.2 (by omega)).arg)
  obtain ⟨k0, k1⟩ := KS.out W HK.out
  have lv := V0.out.lt
  have hgW : g < W.heap.size := by omega
  go_cut [5, 6] (fun s5 s6 wx => AfterT W g A n c s5 s6 wx)
  case first =>
    go_region_held3 (fun w' => w'.cell? ⟨w.heap.size, 0, none⟩ = some (Value.int .i64 N) ∧ w'.cell? ⟨w.heap.size, 1, none⟩ = some (Value.slice B xs.length d))
      (first | exact KS.out _ hd5 | exact KS.out _ hd4 | exact KS.out _ HK.out.drew | exact KS.out _ (hd5.alloc _) | exact KS.out _ (hd4.alloc _) | exact KS.out _ (HK.out.alloc _).drew | exact KS.out _ ((hd5.set hgW (by first | exact hd4.2.size | exact Nat.le_refl _) _).set hgW (by first | exact hd4.2.size | exact Nat.le_refl _) _))
      (first
        | (go_at_call 45; refine (Calls.mono (mult7 g A n c xs.length (by omega) _ (by first | exact HK.out.drew.1 | exact (HK.out.alloc _).drew.1))) ?_; rintro e u4 ⟨C2, g2, ms, rfl, hlm, hO4, hK4⟩; (have HLM := Lib.hid hlm); clear hlm; (have hd4 : Kept W g A n c u4 := by first | exact HK.out.drew.trans hK4 | exact (HK.out.alloc _).drew.trans hK4); (try (have v4 := new_keep hgW hK4)))
        | (go_at_call 20; refine (Calls.mono (FarkS.combine _ _ N B C2 d g2 xs ms _ (SA.out _ (by first | exact hd4 | exact hd4.alloc _)) (by omega) (hO4.1.below (by first | exact Below.refl _ _ | exact (Below.refl _ _).alloc (Nat.le_refl _) _)) (by have := HLM.out; omega))) ?_; rintro e u5 ⟨Aw, cw, rfl, rw5, fw5, b5⟩; (have hs5 : Below u4.heap.size u4 u5 := by first | exact b5 | exact ((Below.refl _ _).alloc (Nat.le_refl _) _).trans (b5.mono (by simp))); (have hd5 := hd4.below hs5); (try (have v5 := v4.below hs5)); (try (have v5 : Lvar u5 u4.heap.size #[Value.int .i64 0, Value.slice none 0 0] := (Lvar.new u4 _ _).below b5)); (try (have z0 := v5.cell 0 (Value.int .i64 0) rfl)); (try (have z1 := v5.cell 1 (Value.slice none 0 0) rfl)); (try (have y0 := v5.frozen 0)); (try (have y1 := v5.frozen 1))))
    all_goals (go_wp2_with fail)
    all_goals go_meet
    all_goals first | exact afterT_new (combR_small N xs ms) (combR_range N xs ms) hd5 rw5 fw5 (by first | exact hd4.2.size | (have := hd4.2.size; simp; omega)) | exact afterT_old (combR_small N xs ms) (combR_range N xs ms) hgW hd5 v5 rw5 fw5 (by first | exact hd4.2.size | exact Nat.le_refl _) (by first | exact v4.lt | (simp; done) | (simp; omega))
  case rest =>
    obtain ⟨T, q, bt, Bt, dt, rfl, rfl, h8, hr, hbt, Vt, Kt, lo7, hi7, Ot, hlo7, hhi7, hd7⟩ := hcut
    have hsc := Kt.2.size
    have K1 := Lib.hid (KW.out.trans Kt)
    have V1 := Lib.hid (V0.out.keep Kt.2 (by omega))
    have Z1 := Lib.hid (Z0.out.keep Kt.2 (by omega))
    have VT := Lib.hid Vt
    have OT := Lib.hid Ot
    have btl := Vt.lt
    clear Kt Vt Ot V0 Z0 KW HK KS SA k0 k1 O0 HS0
    cases q with
    | false =>
      have n0 := V1.out.cell 0 (.int .i64 N) rfl
      go_wp2_with fail
      refine (Calls.mono (max0 N _)) ?_
      rintro e w8 ⟨kk, rfl, rfl⟩
      go_wp2_with fail
      refine (Calls.mono (min9 kk _)) ?_
      rintro e w9 ⟨mm, hmm, rfl, rfl⟩
      go_wp2_with fail
      refine (Calls.mono (draw4 g A n c mm (by omega) wc K1.out.1)) ?_
      rintro e w10 ⟨z, zs, C, f, rfl, hP5, hd5, hO5, hK5⟩
      have hU := Lib.hid (show zs.length ≤ 9 by rw [hP5.2.1]; exact hmm)
      have Z10 := Lib.hid (Z1.out.keep hK5.2 (by omega))
      have K10 := Lib.hid (K1.out.trans hK5)
      have hs10 : wc.heap.size ≤ w10.heap.size := hK5.2.size
      have q0 := Z10.out.cell 0 (.int .i64 0) rfl
      have q1 := Z10.out.cell 1 (.slice none 0 0) rfl
      have p0 := Z10.out.frozen 0
      have p1 := Z10.out.frozen 1
      have mm' : Mod (w.heap.size + 1) (w.heap.size + 1 + 1) w10 ((w10.setCell ⟨w.heap.size + 1, 0, none⟩ (.int .i64 z)).setCell ⟨w.heap.size + 1, 1, none⟩ (.slice C zs.length f)) := (Mod.set _ (p := ⟨w.heap.size + 1, 0, none⟩) (Nat.le_refl _) (Nat.lt_succ_self _) _).trans (Mod.set _ (p := ⟨w.heap.size + 1, 1, none⟩) (Nat.le_refl _) (Nat.lt_succ_self _) _)
      have ho := hO5.keep mm' (Or.inr (by omega))
      have HO := Lib.hid (show IntK.Own w.heap.size _ ((w10.setCell ⟨w.heap.size + 1, 0, none⟩ (.int .i64 z)).setCell ⟨w.heap.size + 1, 1, none⟩ (.slice C zs.length f)) C zs from ⟨ho.1.wider (by omega) mm'.size (Nat.le_refl _), ho.2⟩)
      have HKF := Lib.hid ((K10.out.set hgl (p := ⟨w.heap.size + 1, 0, none⟩) (Nat.le_succ _) (.int .i64 z)).set hgl (p := ⟨w.heap.size + 1, 1, none⟩) (Nat.le_succ _) (.slice C zs.length f))
      clear ho mm' hO5 hK5 hP5 hd5
      go_wp2
      refine bodyPost_ret (v := .agg #[.int .i64 z, .slice C zs.length f]) (by simp [results, Try.results47, go_sem, q0, q1]) rfl ⟨z, zs, C, f, rfl, hU.out, HO.out, HKF.out⟩
    | true =>
      go_wp2_with fail
      refine (once g A n c 4 (by omega) _ K1.out.1).mono ?_
      rintro e w7 ⟨q2, rfl, hL⟩
      have m7 := hL.kept.2
      have K7 := Lib.hid (K1.out.trans hL.kept)
      have V7 := Lib.hid (V1.out.keep m7 (by omega))
      have Z7 := Lib.hid (Z1.out.keep m7 (by omega))
      have VT7 := Lib.hid (VT.out.keep m7 (by omega))
      have OT7 := Lib.hid (OT.out.keep m7 (by omega))
      have hs7 := m7.size
      clear hL m7 K1 V1 Z1 VT OT
      cases q2 with
      | true =>
        have n0 := V7.out.cell 0 (.int .i64 N) rfl
        go_wp2_with fail
        refine (Calls.mono (max0 N _)) ?_
        rintro e w8 ⟨kk, rfl, rfl⟩
        go_wp2_with fail
        refine (Calls.mono (min9 kk _)) ?_
        rintro e w9 ⟨mm, hmm, rfl, rfl⟩
        go_wp2_with fail
        refine (Calls.mono (draw4 g A n c mm (by omega) w7 K7.out.1)) ?_
        rintro e w10 ⟨z, zs, C, f, rfl, hP5, hd5, hO5, hK5⟩
        have hU := Lib.hid (show zs.length ≤ 9 by rw [hP5.2.1]; exact hmm)
        have Z10 := Lib.hid (Z7.out.keep hK5.2 (by omega))
        have K10 := Lib.hid (K7.out.trans hK5)
        have hs10 : w7.heap.size ≤ w10.heap.size := hK5.2.size
        have q0 := Z10.out.cell 0 (.int .i64 0) rfl
        have q1 := Z10.out.cell 1 (.slice none 0 0) rfl
        have p0 := Z10.out.frozen 0
        have p1 := Z10.out.frozen 1
        have mm' : Mod (w.heap.size + 1) (w.heap.size + 1 + 1) w10 ((w10.setCell ⟨w.heap.size + 1, 0, none⟩ (.int .i64 z)).setCell ⟨w.heap.size + 1, 1, none⟩ (.slice C zs.length f)) := (Mod.set _ (p := ⟨w.heap.size + 1, 0, none⟩) (Nat.le_refl _) (Nat.lt_succ_self _) _).trans (Mod.set _ (p := ⟨w.heap.size + 1, 1, none⟩) (Nat.le_refl _) (Nat.lt_succ_self _) _)
        have ho := hO5.keep mm' (Or.inr (by omega))
        have HO := Lib.hid (show IntK.Own w.heap.size _ ((w10.setCell ⟨w.heap.size + 1, 0, none⟩ (.int .i64 z)).setCell ⟨w.heap.size + 1, 1, none⟩ (.slice C zs.length f)) C zs from ⟨ho.1.wider (by omega) mm'.size (Nat.le_refl _), ho.2⟩)
        have HKF := Lib.hid ((K10.out.set hgl (p := ⟨w.heap.size + 1, 0, none⟩) (Nat.le_succ _) (.int .i64 z)).set hgl (p := ⟨w.heap.size + 1, 1, none⟩) (Nat.le_succ _) (.slice C zs.length f))
        clear ho mm' hO5 hK5 hP5 hd5
        go_wp2
        refine bodyPost_ret (v := .agg #[.int .i64 z, .slice C zs.length f]) (by simp [results, Try.results47, go_sem, q0, q1]) rfl ⟨z, zs, C, f, rfl, hU.out, HO.out, HKF.out⟩
      | false =>
        have t0 := VT7.out.cell 0 (.int .i64 T.1) rfl
        go_wp2_with fail
        go_region_law (first
          | (go_simp; go_at_call 48; refine (Calls.mono (below g A n c 4 (by omega) _ (K7.out.drew).1)) ?_; rintro e w8 ⟨y, hy0, hy1, _, rfl, hL8⟩; (have hy2 := hy1 (by omega)); (have hw1 : IntKind.i64.wrap (T.1 + y) = T.1 + y := IntWalk.i64_in _ (by omega)); (have hw2 : IntKind.i64.wrap (T.1 + y - 1) = T.1 + y - 1 := IntWalk.i64_in _ (by omega)); (have m8 := hL8.kept.2); (have VT8 : Lvar w8 bt #[Value.int IntKind.i64 T.1, Value.slice Bt T.2.length dt] := Lvar.keep (w := w7.drew) VT7.out m8 (by omega)); (have t80 := VT8.cell 0 (.int .i64 T.1) rfl); (have f80 := VT8.frozen 0)))
        all_goals
          have K8 := K7.out.drew.trans hL8.kept
          have hs8 : w7.heap.size ≤ w8.heap.size := m8.size
          have Z8 : Lvar w8 (w.heap.size + 1) #[Value.int IntKind.i64 0, Value.slice none 0 0] := Lvar.keep (w := w7.drew) Z7.out m8 (by omega)
          have OT8 : IntK.Own lo7 hi7 w8 Bt T.2 := IntK.Own.keep (w := w7.drew) OT7.out m8 (by omega)
          have hv9 := VT8.set 0 (.int .i64 (T.1 + y - 1))
          have VT9 := Lib.hid (show Lvar (w8.setCell ⟨bt, 0, none⟩ (.int .i64 (T.1 + y - 1))) bt #[.int .i64 (T.1 + y - 1), .slice Bt T.2.length dt] by simpa using hv9)
          have m9 : Mod bt (bt + 1) w8 (w8.setCell ⟨bt, 0, none⟩ (.int .i64 (T.1 + y - 1))) := Mod.set _ (p := ⟨bt, 0, none⟩) (Nat.le_refl _) (Nat.lt_succ_self _) _
          have K9 := Lib.hid (K8.set hgl (p := ⟨bt, 0, none⟩) (by show w.heap.size ≤ bt; omega) (.int .i64 (T.1 + y - 1)))
          have Z9 := Lib.hid (Z8.keep m9 (by omega))
          have OT9 := Lib.hid (OT8.keep m9 (by omega))
          have hs9 : (w8.setCell ⟨bt, 0, none⟩ (.int .i64 (T.1 + y - 1))).heap.size = w8.heap.size := by simp [World.setCell]
          have HS9 := Lib.hid hs9
          clear hv9 m9 K8 Z8 OT8 hL8 m8 VT8 t80 f80 t0 hs9
          go_upto_region 5 with fail
          generalize w8.setCell ⟨bt, 0, none⟩ (.int .i64 (T.1 + y - 1)) = w9 at *
          have hs9 : w8.heap.size ≤ w9.heap.size := Nat.le_of_eq HS9.out.symm
          have t0 := VT9.out.cell 0 (.int .i64 (T.1 + y - 1)) rfl
          have t1 := VT9.out.cell 1 (.slice Bt T.2.length dt) rfl
          have q0 := Z9.out.cell 0 (.int .i64 0) rfl
          have q1 := Z9.out.cell 1 (.slice none 0 0) rfl
          have p0 := Z9.out.frozen 0
          have p1 := Z9.out.frozen 1
          have mm' : Mod (w.heap.size + 1) (w.heap.size + 1 + 1) w9 ((w9.setCell ⟨w.heap.size + 1, 0, none⟩ (.int .i64 (T.1 + y - 1))).setCell ⟨w.heap.size + 1, 1, none⟩ (.slice Bt T.2.length dt)) := (Mod.set _ (p := ⟨w.heap.size + 1, 0, none⟩) (Nat.le_refl _) (Nat.lt_succ_self _) _).trans (Mod.set _ (p := ⟨w.heap.size + 1, 1, none⟩) (Nat.le_refl _) (Nat.lt_succ_self _) _)
          have ho := OT9.out.keep mm' (Or.inr (by omega))
          have HO := Lib.hid (show IntK.Own w.heap.size _ ((w9.setCell ⟨w.heap.size + 1, 0, none⟩ (.int .i64 (T.1 + y - 1))).setCell ⟨w.heap.size + 1, 1, none⟩ (.slice Bt T.2.length dt)) Bt T.2 from ⟨ho.1.wider (by omega) (Nat.le_trans (by omega) mm'.size) (Nat.le_refl _), ho.2⟩)
          have HKF := Lib.hid ((K9.out.set hgl (p := ⟨w.heap.size + 1, 0, none⟩) (Nat.le_succ _) (.int .i64 (T.1 + y - 1))).set hgl (p := ⟨w.heap.size + 1, 1, none⟩) (Nat.le_succ _) (.slice Bt T.2.length dt))
          clear ho mm'
          go_wp2
          refine bodyPost_ret (v := .agg #[.int .i64 (T.1 + y - 1), .slice Bt T.2.length dt]) (by simp [results, Try.results47, go_sem, q0, q1]) rfl ⟨T.1 + y - 1, T.2, Bt, dt, rfl, by omega, HO.out, HKF.out⟩
end Draw
end Go.Proofs.Ytnbgmhlhbcoicaa
