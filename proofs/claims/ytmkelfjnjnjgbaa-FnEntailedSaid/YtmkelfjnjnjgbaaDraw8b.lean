import Derived.Test.YtmkelfjnjnjgbaaDraw6d
import Derived.Test.YtmkelfjnjnjgbaaLinSpec3
import Derived.Test.YtmkelfjnjnjgbaaRepOwn
import Derived.Test.YtmkelfjnjnjgbaaElimRep
import Derived.Test.YtmkelfjnjnjgbaaDrawAny3
import Derived.Deep.AppendLies
import Derived.Deep.DeepCutAuto
import Derived.Deep.RegionHeld3
/-
  The draws of the eighth chapter: a system that may have no solution.
-/
namespace Go.Proofs.Ytmkelfjnjnjgbaa
open Go.RowKit
namespace Draw
open RowK Mem LinM

/-- A system. -/
def SomeSys8 (w : World) (e : Ending) (w' : World) : Prop :=
  ∃ (N : Int) (B : Option Addr) (d : Nat) (xs : List (Int × List Int)), e = .returned (.agg #[.int .i64 N, .slice B xs.length d]) ∧ xs.length ≤ 25 ∧ (∀ x ∈ xs, x.2.length ≤ 9) ∧ SysK.Arg w' B xs.length d xs ∧ Below w.heap.size w w'
/-- Behind a statement that lays an expression into a new variable, beside a bool. -/
def AfterN (w : World) (s t : Value) (wx : World) : Prop :=
  ∃ (T : Int × List Int) (q : Bool) (b : Nat) (A : Option Addr) (c : Nat), s = .pointer (some ⟨b, 0, none⟩) ∧ t = .bool q ∧ T.2.length ≤ 8 ∧ T.2.length ≤ c ∧ w.heap.size ≤ b ∧ Lvar wx b #[.int .i64 T.1, .slice A T.2.length c] ∧ IntK.Own w.heap.size wx.heap.size wx A T.2 ∧ Below w.heap.size w wx
theorem afterN_new {w w5 : World} {T : Int × List Int} {q : Bool} {lo c : Nat} {A : Option Addr} {t : TypeId} (h8 : T.2.length ≤ 8) (hc : T.2.length ≤ c) (hd : Below w.heap.size w w5) (r : Row lo w5.heap.size w5 A (IntK.iv T.2)) (f : Free w5 A T.2.length) (hlo : w.heap.size ≤ lo) :
    AfterN w (.pointer (some ⟨w5.heap.size, 0, none⟩)) (.bool q) (w5.alloc (Obj.cells #[.int .i64 T.1, .slice A T.2.length c] t)) := by
  have b : Below w5.heap.size w5 (w5.alloc (Obj.cells #[.int .i64 T.1, .slice A T.2.length c] t)) := (Below.refl _ _).alloc (Nat.le_refl _) _
  exact ⟨T, q, _, A, c, rfl, rfl, h8, hc, hd.size, Lvar.new _ _ _, ⟨(r.below b).wider hlo (by simp) (Nat.le_refl _), f.below r (by rw [IntK.iv_len]; exact Nat.le_refl _) b⟩, hd.alloc hd.size _⟩
theorem afterN_old {w w5 : World} {T : Int × List Int} {q : Bool} {lo c b : Nat} {A : Option Addr} {x y : Value} (h8 : T.2.length ≤ 8) (hc : T.2.length ≤ c) (hd : Below w.heap.size w w5) (v : Lvar w5 b #[x, y]) (r : Row lo w5.heap.size w5 A (IntK.iv T.2)) (f : Free w5 A T.2.length) (hb : w.heap.size ≤ b) (hlo : b < lo) :
    AfterN w (.pointer (some ⟨b, 0, none⟩)) (.bool q) ((w5.setCell ⟨b, 0, none⟩ (.int .i64 T.1)).setCell ⟨b, 1, none⟩ (.slice A T.2.length c)) := by
  have m : Mod b (b + 1) w5 ((w5.setCell ⟨b, 0, none⟩ (.int .i64 T.1)).setCell ⟨b, 1, none⟩ (.slice A T.2.length c)) := (Mod.set _ (p := ⟨b, 0, none⟩) (Nat.le_refl _) (Nat.lt_succ_self _) _).trans (Mod.set _ (p := ⟨b, 1, none⟩) (Nat.le_refl _) (Nat.lt_succ_self _) _)
  have hv := (v.set 0 (.int .i64 T.1)).set 1 (.slice A T.2.length c)
  exact ⟨T, q, b, A, c, rfl, rfl, h8, hc, hb, by simpa using hv, ⟨(r.keep m (Or.inr hlo)).wider (by omega) m.size (Nat.le_refl _), f.keep r (by rw [IntK.iv_len]; exact Nat.le_refl _) m (Or.inr hlo)⟩, (hd.setCell hb _).setCell hb _⟩

set_option maxHeartbeats 8000000 in
set_option maxRecDepth 100000 in
theorem drawIsEmptySystem (A : Option Addr) (n c : Nat) (hn : n ≤ 1048576) (w : World) (hc : Code w A n) :
    Calls Try.prog 22 #[.slice A n c] w (SomeSys8 w) := by
  obtain ⟨i0, hi0, hz0, hz1, hz2⟩ := info_parts linInfo
  have HI := Lib.hid hi0
  have HZ0 := Lib.hid hz0
  have HZ1 := Lib.hid hz1
  have HZ2 := Lib.hid hz2
  have hu := Lib.hid Try.underlying24
  have b0 : Below w.heap.size w (w.alloc (Obj.cells #[Value.int IntKind.i64 0, Value.slice none 0 0] 26)) := (Below.refl _ _).alloc (Nat.le_refl _) _
  have B0 := Lib.hid b0
  have La := Lib.hid (Lvar.new w #[Value.int IntKind.i64 0, Value.slice none 0 0] 26)
  clear b0 hi0 hz0 hz1 hz2
  go_enter Try.func22, Try.ntmps22
  go_wp2_with fail
  refine (new A n c hn _ (hc.keep B0.out)).mono ?_
  rintro e w1 ⟨g, rfl, hC, hg, hb⟩
  simp only [World.size_alloc] at hg
  have B1 := Lib.hid (B0.out.trans (hb.mono B0.out.size))
  have La1 := Lib.hid (La.out.below hb)
  have hgl := hC.lt
  clear hb La
  go_wp2_with fail
  refine (bent6 g A n c _ hC).mono ?_
  rintro e w2 ⟨N, v, xs, rfl, hP, hO, hK⟩
  obtain ⟨B, d, rfl, _⟩ := SysS.own_slice (lo := w1.heap.size) hO (fun b h => h)
  have m2 := hK.2
  have hs2 := m2.size
  have hx24 := hP.2.1
  have HL9 := Lib.hid hP.2.2
  have hO2 := Owned.to (ok' := fun b => w1.heap.size ≤ b ∧ b ≠ w2.heap.size) hO (fun b hb h => ⟨h, by omega⟩)
  have K3 := Lib.hid (hK.alloc (Obj.cells #[Value.int IntKind.i64 N, Value.slice B xs.length d] 26))
  have La3 := Lib.hid ((La1.out.keep m2 (by omega)).alloc (Obj.cells #[Value.int IntKind.i64 N, Value.slice B xs.length d] 26))
  have V3 := Lib.hid (Lvar.new w2 #[Value.int IntKind.i64 N, Value.slice B xs.length d] 26)
  have O3 := Lib.hid (hO2.below ((Below.refl _ _).alloc (Nat.le_refl _) (Obj.cells #[Value.int IntKind.i64 N, Value.slice B xs.length d] 26)))
  have HS3 := Lib.hid (show w2.heap.size + 1 ≤ (w2.alloc (Obj.cells #[Value.int IntKind.i64 N, Value.slice B xs.length d] 26)).heap.size by simp)
  clear hK m2 hO hO2 hP La1
  go_upto_region 3 with fail
  generalize w2.alloc (Obj.cells #[Value.int IntKind.i64 N, Value.slice B xs.length d] 26) = w3 at *
  have hs3 := HS3.out
  have HB3 := Lib.hid (show Below w.heap.size w w3 from kept_new B1.out (by omega) K3.out)
  by_cases h0 : 0 < xs.length
  · have hd0 : decide ((0 : Int) < (xs.length : Int)) = true := decide_eq_true (by omega)
    have v1 := V3.out.cell 1 (.slice B xs.length d) rfl
    have vl3 := V3.out.lt
    go_wp2_with fail
    refine (once g A n c 2 (by omega) _ K3.out.1).mono ?_
    rintro e w4 ⟨q, rfl, hL⟩
    have m4 := hL.kept.2
    have hs4 := m4.size
    have K4 := Lib.hid (K3.out.trans hL.kept)
    have La4 := Lib.hid (La3.out.keep m4 (by omega))
    have V4 := Lib.hid (V3.out.keep m4 (by omega))
    have O4 := Lib.hid (owned_mod O3.out m4 (fun h => by have := h.1; omega))
    have HB4 := Lib.hid (show Below w.heap.size w w4 from kept_new B1.out (by omega) K4.out)
    clear hL m4 v1 La3 V3 O3 K3
    cases q with
    | false =>
      obtain ⟨Bf, df, ff, ef, hrf, _, hokf⟩ := Owned.rep O4.out (by decide)
      injection ef with ef1 ef2 ef3
      subst ef1
      subst ef3
      have mm : Mod w.heap.size (w.heap.size + 1) w4 ((w4.setCell ⟨w.heap.size, 0, none⟩ (.int .i64 N)).setCell ⟨w.heap.size, 1, none⟩ (.slice B xs.length d)) := (Mod.set _ (p := ⟨w.heap.size, 0, none⟩) (Nat.le_refl _) (Nat.lt_succ_self _) _).trans (Mod.set _ (p := ⟨w.heap.size, 1, none⟩) (Nat.le_refl _) (Nat.lt_succ_self _) _)
      have H1 := Lib.hid (Rep.keep hrf mm (fun b hb => Or.inr (by have := (hokf b hb).1; omega)))
      have H3 := Lib.hid (below_mod HB4.out mm (Nat.le_refl _) HB4.out.size)
      have v0 := V4.out.cell 0 (.int .i64 N) rfl
      have v1 := V4.out.cell 1 (.slice B xs.length d) rfl
      have a0 := La4.out.cell 0 (.int .i64 0) rfl
      have a1 := La4.out.cell 1 (.slice none 0 0) rfl
      have e0 := La4.out.frozen 0
      have e1 := La4.out.frozen 1
      have vl := V4.out.lt
      have al := La4.out.lt
      clear mm hrf hokf
      go_wp2
      refine bodyPost_ret (v := .agg #[.int .i64 N, .slice B xs.length d]) (by simp [results, Try.results22, go_sem, a0, a1]) rfl ⟨N, B, d, xs, rfl, by omega, HL9.out, ⟨_, _, H1.out⟩, H3.out⟩
    | true =>
      obtain ⟨Bf, df, ff, ef, hrf, _, hokf⟩ := Owned.rep O4.out (by decide)
      injection ef with ef1 ef2 ef3
      subst ef1
      subst ef3
      obtain ⟨bR, oR, fR, csR, rfl, hbR, hrR, hcR, _⟩ := slice_at hrf h0
      obtain ⟨Bx, dx, lox, hix, rfl, _, rx, _⟩ := lin_open hrR
      have c0 := (show w4.cell? ⟨bR, oR, none⟩ = some (.int .i64 xs[0].1) from hcR 0 (by decide))
      have c1 := (show w4.cell? ⟨bR, oR + 1, none⟩ = some (.slice Bx xs[0].2.length dx) from hcR 1 (by decide))
      have hx9 := HL9.out _ (List.getElem_mem h0)
      generalize xs[0] = x0 at *
      have RX := Lib.hid rx
      have vl4 := V4.out.lt
      have KS := Lib.hid (fun W (h : Below w4.heap.size w4 W) => (show W.cell? ⟨w2.heap.size, 0, none⟩ = some (.int .i64 N) ∧ W.cell? ⟨w2.heap.size, 1, none⟩ = some (.slice (some ⟨bR, oR, none⟩) xs.length d) ∧ W.cell? ⟨bR, oR, none⟩ = some (.int .i64 x0.1) ∧ W.cell? ⟨bR, oR + 1, none⟩ = some (.slice Bx x0.2.length dx) from
        ⟨(V4.out.below h).cell 0 _ rfl, (V4.out.below h).cell 1 _ rfl, (h.cell (p := ⟨bR, oR, none⟩) hbR).trans c0, (h.cell (p := ⟨bR, oR + 1, none⟩) hbR).trans c1⟩))
      have AS := Lib.hid (fun z zs C0 k0 lo2 hi2 W (h1 : Below w4.heap.size w4 W) (h2 : Row lo2 hi2 W C0 (IntK.iv zs)) (hz : zs.length ≤ 9) => LinS.addScaledC lo2 hi2 lox hix z (-1) x0.1 C0 Bx k0 dx zs x0.2 W h2 (RX.out.below h1) (by omega) (by omega))
      have hi0 : (0 : Int) < (xs.length : Int) := by omega
      clear c0 c1 hrR hcR rx hrf hokf
      obtain ⟨k0, k1, k2, k3⟩ := KS.out w4 (Below.refl _ _)
      go_upto_region 4 with fail
      go_cut [5, 6] (fun s t wx => AfterN w4 s t wx)
      case first =>
        go_region_held3 (fun w' => w'.cell? ⟨w2.heap.size, 0, none⟩ = some (.int .i64 N) ∧ w'.cell? ⟨w2.heap.size, 1, none⟩ = some (.slice (some ⟨bR, oR, none⟩) xs.length d) ∧ w'.cell? ⟨bR, oR, none⟩ = some (.int .i64 x0.1) ∧ w'.cell? ⟨bR, oR + 1, none⟩ = some (.slice Bx x0.2.length dx))
          (first | with_reducible exact KS.out _ hd5 | with_reducible exact KS.out _ hd4 | with_reducible exact KS.out _ (Below.refl _ _).drew | with_reducible exact KS.out _ (hd5.alloc hd5.size _) | with_reducible exact KS.out _ (hd4.alloc hd4.size _) | with_reducible exact KS.out _ ((Below.refl _ _).alloc (Nat.le_refl _) _).drew | with_reducible exact KS.out _ ((hd5.setCell (by first | (simp; done) | (exact hd4.size)) _).setCell (by first | (simp; done) | (exact hd4.size)) _))
          (first
            | (go_at_call 55; refine (Calls.mono (max0 N _)) ?_; rintro e u3 ⟨kk, rfl, rfl⟩)
            | (go_at_call 46; refine (Calls.mono (constAny (-1) _ _)) ?_; rintro e u4 ⟨z, zs, C2, g2, rfl, hz9, hg2, o4, b4⟩; (have hd4 : Below w4.heap.size w4 u4 := by first | exact ((Below.refl w4.heap.size w4).drew).trans (b4.mono ((Below.refl w4.heap.size w4).drew).size) | exact (((Below.refl w4.heap.size w4).alloc (Nat.le_refl _) _).drew).trans (b4.mono (((Below.refl w4.heap.size w4).alloc (Nat.le_refl _) _).drew).size)); (try (have v4 : Lvar u4 w4.heap.size #[Value.int .i64 0, Value.slice none 0 0] := ((Lvar.new w4 _ _).below (Below.refl _ _).drew).below b4)))
            | (go_at_call 45; refine (Calls.mono (AS.out z zs C2 g2 _ _ _ (by first | exact hd4 | exact hd4.alloc hd4.size _) (o4.1.below (by first | exact Below.refl _ _ | exact (Below.refl _ _).alloc (Nat.le_refl _) _)) hz9)) ?_; rintro e u5 ⟨Aw, cw, rfl, rw5, fw5, b5, hcw⟩; (have hs5' : Below u4.heap.size u4 u5 := by first | exact b5 | exact ((Below.refl _ _).alloc (Nat.le_refl _) _).trans (b5.mono (by simp))); (have hd5 := hd4.trans (hs5'.mono hd4.size)); (try (have v5 := v4.below hs5')); (try (have v5 : Lvar u5 u4.heap.size #[Value.int .i64 0, Value.slice none 0 0] := (Lvar.new u4 _ _).below b5)); (try (have z0 := v5.cell 0 (Value.int .i64 0) rfl)); (try (have z1 := v5.cell 1 (Value.slice none 0 0) rfl)); (try (have y0 := v5.frozen 0)); (try (have y1 := v5.frozen 1))))
        all_goals (go_wp2_with fail)
        all_goals go_meet
        all_goals first | exact afterN_new (LinI.addS_len _ _ _ _ _) hcw hd5 rw5 fw5 (by first | exact hd4.size | (have := hd4.size; simp; omega)) | exact afterN_old (LinI.addS_len _ _ _ _ _) hcw hd5 v5 rw5 fw5 (by first | exact hd4.size | exact Nat.le_refl _) (by first | exact v4.lt | (simp; done) | (simp; omega))
      case rest =>
        obtain ⟨w5, rfl⟩ : ∃ w5 : World, w5 = wc := ⟨_, rfl⟩
        obtain ⟨T, q, b5, A5, c5, rfl, e6, h8, hc5, hb5, V5, O5, d5⟩ := hcut
        have La5 := Lib.hid (La4.out.below d5)
        have VB := Lib.hid (V4.out.below d5)
        have OO := Lib.hid (O4.out.below d5)
        have HB5 := Lib.hid (HB4.out.trans (d5.mono HB4.out.size))
        have hs5 := d5.size
        cases q with
        | false =>
          subst e6
          clear k0 k1 k2 k3 KS AS V5 O5 d5
          obtain ⟨Bf, df, ff, ef, hrf, _, hokf⟩ := Owned.rep OO.out (by decide)
          injection ef with ef1 ef2 ef3
          subst ef1
          subst ef3
          have mm : Mod w.heap.size (w.heap.size + 1) w5 ((w5.setCell ⟨w.heap.size, 0, none⟩ (.int .i64 N)).setCell ⟨w.heap.size, 1, none⟩ (.slice (some ⟨bR, oR, none⟩) xs.length d)) := (Mod.set _ (p := ⟨w.heap.size, 0, none⟩) (Nat.le_refl _) (Nat.lt_succ_self _) _).trans (Mod.set _ (p := ⟨w.heap.size, 1, none⟩) (Nat.le_refl _) (Nat.lt_succ_self _) _)
          have H1 := Lib.hid (Rep.keep hrf mm (fun b hb => Or.inr (by have := (hokf b hb).1; omega)))
          have H3 := Lib.hid (below_mod HB5.out mm (Nat.le_refl _) HB5.out.size)
          have v0 := VB.out.cell 0 (.int .i64 N) rfl
          have v1 := VB.out.cell 1 (.slice (some ⟨bR, oR, none⟩) xs.length d) rfl
          have a0 := La5.out.cell 0 (.int .i64 0) rfl
          have a1 := La5.out.cell 1 (.slice none 0 0) rfl
          have e0 := La5.out.frozen 0
          have e1 := La5.out.frozen 1
          have vl := VB.out.lt
          have al := La5.out.lt
          clear mm hrf hokf
          go_wp2
          refine bodyPost_ret (v := .agg #[.int .i64 N, .slice (some ⟨bR, oR, none⟩) xs.length d]) (by simp [results, Try.results22, go_sem, a0, a1]) rfl ⟨N, (some ⟨bR, oR, none⟩), d, xs, rfl, by omega, HL9.out, ⟨_, _, H1.out⟩, H3.out⟩
        | true =>
          subst e6
          obtain ⟨es, hes, hown, he, hnd, hog, hd⟩ := O4.out
          have hown5 := hown.kept (StrK.only_below d5 none) (Or.inr (by intro e; cases e))
          have HOW := Lib.hid hown5
          have t0 := V5.cell 0 (.int .i64 T.1) rfl
          have t1 := V5.cell 1 (.slice A5 T.2.length c5) rfl
          have t5l := V5.lt
          have kb0 := VB.out.cell 0 (.int .i64 N) rfl
          have kb1 := VB.out.cell 1 (.slice (some ⟨bR, oR, none⟩) xs.length d) rfl
          have kbl := VB.out.lt
          obtain ⟨fT, hfT, hfn, hfi⟩ := lin_close (q := true) (z := T.1) O5.1 (fun _ => O5.2) hc5
          have HES := Lib.hid hes
          have HEL := Lib.hid he
          have HND := Lib.hid hnd
          have HD := Lib.hid hd
          have HOG := Lib.hid hog
          have HOW4 := Lib.hid hown
          have HFT := Lib.hid hfT
          have HFN := Lib.hid hfn
          have HFI := Lib.hid hfi
          have D5 := Lib.hid d5
          have hne2 : (Value.slice (some ⟨bR, oR, none⟩) xs.length d).ownBlock ≠ some w2.heap.size := fun e => (hog _ e).2 rfl
          have hne0 : (Value.slice (some ⟨bR, oR, none⟩) xs.length d).ownBlock ≠ some w.heap.size := fun e => by have := (hog _ e).1; omega
          have HN2 := Lib.hid hne2
          have HN0 := Lib.hid hne0
          clear k0 k1 k2 k3 KS AS V5 O5 d5 hes hown hown5 he hnd hog hd hfT hfn hfi hne2 hne0
          go_wp2_with (at_builtin; go_loud (refine wpList_append_where rfl (.tmp 33) (.tmp 35) 24 rfl 0 29 i0 (.agg #[.int .i64 0, .slice none 0 0]) 2 32 hu.out HI.out HZ0.out HZ1.out HZ2.out rfl (by decide) _ _ _ rfl (HOW.out.alloc _) ⟨w5.heap.size, 0, none⟩ 1 1 [.int .i64 T.1, .slice A5 T.2.length c5] rfl rfl (World.news_of_block (cs := #[.int .i64 T.1, .slice A5 T.2.length c5]) (heap_alloc_new w5 _)) (by simp [Value.oneCell']) (by unfold maxLen; omega) (by omega) (Nat.zero_le _) ?_); intro v6 w6 hown6 hgrow hwh; (have VB6 := lvar_grown (VB.out.alloc _) hgrow HN2.out); (have La6 := lvar_grown (La5.out.alloc _) hgrow HN0.out); (have m0 := VB6.cell 0 (.int .i64 N) rfl); (have m1 := VB6.cell 1 (.slice (some ⟨bR, oR, none⟩) xs.length d) rfl); (have m2 := VB6.frozen 1); (have a0 := La6.cell 0 (.int .i64 0) rfl); (have a1 := La6.cell 1 (.slice none 0 0) rfl); (have e0 := La6.frozen 0); (have e1 := La6.frozen 1); (obtain ⟨g6, cap6, rfl, _, _, _, _⟩ := RowK.of_own hown6))
          have ta : Below w5.heap.size w5 (w5.alloc (Obj.cells #[.int .i64 T.1, .slice A5 T.2.length c5] 29)) := (Below.refl _ _).alloc (Nat.le_refl _) _
          have hlt : ∀ b ∈ fps es, b < w4.heap.size := fun b hb => by
            obtain ⟨y, h6, h7⟩ := List.mem_flatMap.1 hb
            exact lin.lt (HEL.out y h6) b h7
          have RR := Owned.snoc (r := lin) (ok := fun b => w1.heap.size ≤ b ∧ b ≠ w2.heap.size) (m := w4.heap.size) HES.out (fun x hx => Rep.below (Rep.below (HEL.out x hx) D5.out) ta) hlt HND.out HD.out (fun g e => ⟨HOG.out g e, (HOW4.out.lt g e).2⟩) (Rep.below HFT.out ta) HFN.out (fun b hb => (HFI.out b hb).1) (fun b hb => ⟨by omega, by omega⟩) hown6 hgrow hwh (by simp; omega)
          have hs6 := hgrow.size
          simp only [World.size_alloc] at hs6
          have R6 := ((RR.set (b := w2.heap.size) (fun h => h.2 rfl) 1 (.slice g6 (xs.length + 1) cap6)).set (b := w.heap.size) (fun h => by have h9 := h.1; omega) 0 (.int .i64 N)).set (b := w.heap.size) (fun h => by have h9 := h.1; omega) 1 (.slice g6 (xs.length + 1) cap6)
          have B6 := ((((HB5.out.alloc (HB5.out.size) (Obj.cells #[.int .i64 T.1, .slice A5 T.2.length c5] 29)).grown hgrow (by simp; omega) (fun g e => by have h9 := (HOG.out g e).1; omega)).setCell (p := ⟨w2.heap.size, 1, none⟩) (by show w.heap.size ≤ w2.heap.size; omega) (.slice g6 (xs.length + 1) cap6)).setCell (p := ⟨w.heap.size, 0, none⟩) (Nat.le_refl _) (.int .i64 N)).setCell (p := ⟨w.heap.size, 1, none⟩) (Nat.le_refl _) (.slice g6 (xs.length + 1) cap6)
          obtain ⟨A6, c6, f6, e6', hr6, _, _⟩ := Owned.rep R6 (by decide)
          have hlen : (xs ++ [T]).length = xs.length + 1 := by simp
          rw [hlen] at e6' hr6
          injection e6' with e7 _ e8
          subst e7
          subst e8
          refine bodyPost_ret (v := .agg #[.int .i64 N, .slice g6 (xs.length + 1) cap6]) (by simp [results, Try.results22, go_sem, a0, a1]) rfl ⟨N, g6, cap6, xs ++ [T], by rw [hlen], by omega, fun x hx => ?_, ⟨_, _, by rw [hlen]; exact hr6⟩, B6⟩
          rcases List.mem_append.1 hx with hx | hx
          · exact HL9.out x hx
          · rw [List.mem_singleton.1 hx]; omega
  · have hd0 : decide ((0 : Int) < (xs.length : Int)) = false := decide_eq_false (by omega)
    obtain ⟨Bf, df, ff, ef, hrf, _, hokf⟩ := Owned.rep O3.out (by decide)
    injection ef with ef1 ef2 ef3
    subst ef1
    subst ef3
    have mm : Mod w.heap.size (w.heap.size + 1) w3 ((w3.setCell ⟨w.heap.size, 0, none⟩ (.int .i64 N)).setCell ⟨w.heap.size, 1, none⟩ (.slice B xs.length d)) := (Mod.set _ (p := ⟨w.heap.size, 0, none⟩) (Nat.le_refl _) (Nat.lt_succ_self _) _).trans (Mod.set _ (p := ⟨w.heap.size, 1, none⟩) (Nat.le_refl _) (Nat.lt_succ_self _) _)
    have H1 := Lib.hid (Rep.keep hrf mm (fun b hb => Or.inr (by have := (hokf b hb).1; omega)))
    have H3 := Lib.hid (below_mod HB3.out mm (Nat.le_refl _) HB3.out.size)
    have v0 := V3.out.cell 0 (.int .i64 N) rfl
    have v1 := V3.out.cell 1 (.slice B xs.length d) rfl
    have a0 := La3.out.cell 0 (.int .i64 0) rfl
    have a1 := La3.out.cell 1 (.slice none 0 0) rfl
    have e0 := La3.out.frozen 0
    have e1 := La3.out.frozen 1
    have vl := V3.out.lt
    have al := La3.out.lt
    clear mm hrf hokf
    go_wp2
    refine bodyPost_ret (v := .agg #[.int .i64 N, .slice B xs.length d]) (by simp [results, Try.results22, go_sem, a0, a1]) rfl ⟨N, B, d, xs, rfl, by omega, HL9.out, ⟨_, _, H1.out⟩, H3.out⟩
end Draw
end Go.Proofs.Ytmkelfjnjnjgbaa
