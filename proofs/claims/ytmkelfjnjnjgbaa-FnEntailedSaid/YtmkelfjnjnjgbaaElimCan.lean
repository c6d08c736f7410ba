import Derived.Test.YtmkelfjnjnjgbaaElimDel
import Derived.Test.YtmkelfjnjnjgbaaElimJoin
import Derived.Test.YtmkelfjnjnjgbaaLinImpl3
import Derived.BigQuiet
import Derived.Deep.QuietTactic
/-
  The program's search: the combination of two rows in which a variable is missing.
-/
namespace Go.Proofs.Ytmkelfjnjnjgbaa
open Go.RowKit
namespace ElimI
open RowK Mem ElimM ElimS ArithM LinM LinI

theorem gaveD_none {w w' : World} (hb : Below w.heap.size w w') : GaveD w none (.returned (.tuple #[.agg #[.int .i64 0, .slice none 0 0, .slice none 0 0], .bool false])) w' := ⟨0, none, 0, 0, none, 0, 0, rfl, fun _ h => (by cases h), hb⟩
theorem gcd_pos {p q : Int} (hp : 0 < p) (hp2 : p ≤ 1000000000) (hq : -1000000000 ≤ q ∧ q ≤ 1000000000) : 1 ≤ gcdL p q := by
  unfold gcdL
  rw [if_pos ⟨inC_iff.2 (by omega), inC_iff.2 hq⟩]
  have : 0 < Nat.gcd p.natAbs q.natAbs := Nat.gcd_pos_of_pos_left _ (by omega)
  omega
theorem mx1_id {g : Int} (h : 1 ≤ g) : mx1 g = g := by unfold mx1; split <;> omega
/-- The multipliers so far. -/
def CanRel (W : World) (a b : Int) (x y : List Int) (s : Value) (wr : World) : Prop :=
  ∃ (k : Nat) (vs : List Int), k ≤ x.length ∧ s = .int .i64 k ∧ vs.length = k ∧ scl a b (x.take k) (y.take k) = some vs ∧ IntK.Own W.heap.size (W.heap.size + 1) wr (some ⟨W.heap.size, 0, none⟩) (vs ++ List.replicate (x.length - vs.length) 0) ∧ Below W.heap.size W wr ∧ W.heap.size + 1 ≤ wr.heap.size
theorem canRel_start (W : World) (a b : Int) (x y : List Int) (hx : x.length ≤ 1000) : CanRel W a b x y (.int .i64 0) (W.alloc (.cells (madeCells #[.int .i64 0] x.length) 3)) := by
  have h := made W x.length (by omega)
  refine ⟨0, [], Nat.zero_le _, rfl, rfl, by simp [scl], ⟨?_, ?_⟩, (Below.refl _ _).alloc (Nat.le_refl _) _, by simp⟩
  · simpa using h.1
  · simpa using h.2

set_option maxHeartbeats 4000000 in
set_option maxRecDepth 100000 in
theorem cancel {N : Int} {m : Nat} (lo hi lo' hi' l1 h1 l1' h1' : Nat) (A B C D : Option Addr) (a b c d i : Nat) (x y : DR) (w : World) (hx : okD N m x) (hy : okD N m y) (hm : m ≤ 1000) (hi8 : i < x.1.2.length) (hpx : 0 < cf x i) (hpy : cf y i < 0) (hA : Row lo hi w A (IntK.iv x.1.2)) (hB : Row lo' hi' w B (IntK.iv x.2)) (hC : Row l1 h1 w C (IntK.iv y.1.2)) (hD : Row l1' h1' w D (IntK.iv y.2)) :
    Calls Try.prog 78 #[.agg #[.int .i64 x.1.1, .slice A x.1.2.length a, .slice B x.2.length b], .agg #[.int .i64 y.1.1, .slice C y.1.2.length c, .slice D y.2.length d], .int .i64 i] w (GaveD w (joinD x y i)) := by
  have hlx := (vldB_iff.1 hx.1)
  have hly := (vldB_iff.1 hy.1)
  have hiy : i < y.1.2.length := by omega
  have hcx := cf_get hi8
  have hcy := cf_get hiy
  have hrx := cf_range (i := i) hx
  have hry := cf_range (i := i) hy
  have HXY := Lib.hid (show x.2.length = y.2.length ∧ x.2.length ≤ 1000 by rw [hx.2, hy.2]; exact ⟨rfl, hm⟩)
  have bb : Below w.heap.size w (((w.alloc (Obj.cells #[Value.int IntKind.i64 x.1.1, Value.slice A x.1.2.length a, Value.slice B x.2.length b] 70)).alloc (Obj.cells #[Value.int IntKind.i64 y.1.1, Value.slice C y.1.2.length c, Value.slice D y.2.length d] 70)).alloc (Obj.cells #[Value.int IntKind.i64 0, Value.slice none 0 0, Value.slice none 0 0] 70)) := (((Below.refl _ _).alloc (Nat.le_refl _) _).alloc (by simp) _).alloc (by simp; omega) _
  have X0 := Lib.hid (((Lvar.new w #[Value.int IntKind.i64 x.1.1, Value.slice A x.1.2.length a, Value.slice B x.2.length b] 70).alloc (Obj.cells #[Value.int IntKind.i64 y.1.1, Value.slice C y.1.2.length c, Value.slice D y.2.length d] 70)).alloc (Obj.cells #[Value.int IntKind.i64 0, Value.slice none 0 0, Value.slice none 0 0] 70))
  have y0 := (Lvar.new (w.alloc (Obj.cells #[Value.int IntKind.i64 x.1.1, Value.slice A x.1.2.length a, Value.slice B x.2.length b] 70)) #[Value.int IntKind.i64 y.1.1, Value.slice C y.1.2.length c, Value.slice D y.2.length d] 70).alloc (Obj.cells #[Value.int IntKind.i64 0, Value.slice none 0 0, Value.slice none 0 0] 70)
  have z0 := Lvar.new ((w.alloc (Obj.cells #[Value.int IntKind.i64 x.1.1, Value.slice A x.1.2.length a, Value.slice B x.2.length b] 70)).alloc (Obj.cells #[Value.int IntKind.i64 y.1.1, Value.slice C y.1.2.length c, Value.slice D y.2.length d] 70)) #[Value.int IntKind.i64 0, Value.slice none 0 0, Value.slice none 0 0] 70
  simp only [World.size_alloc] at y0 z0
  have Y0 := Lib.hid y0
  have Z0 := Lib.hid z0
  have hs0 : w.heap.size + 3 ≤ (((w.alloc (Obj.cells #[Value.int IntKind.i64 x.1.1, Value.slice A x.1.2.length a, Value.slice B x.2.length b] 70)).alloc (Obj.cells #[Value.int IntKind.i64 y.1.1, Value.slice C y.1.2.length c, Value.slice D y.2.length d] 70)).alloc (Obj.cells #[Value.int IntKind.i64 0, Value.slice none 0 0, Value.slice none 0 0] 70)).heap.size := by simp
  have HS0 := Lib.hid hs0
  have RA := Lib.hid (hA.below bb)
  have RB := Lib.hid (hB.below bb)
  have RC := Lib.hid (hC.below bb)
  have RD := Lib.hid (hD.below bb)
  have BB := Lib.hid bb
  have hnx : x.1.2.length ≤ 8 := by omega
  have hny : y.1.2.length ≤ 8 := by omega
  have hq0 := gcd_pos (q := -cf y i) hpx hrx.2 (by omega)
  have HJ := Lib.hid (show joinD x y i = (addS 0 (List.replicate x.1.2.length 0) ((-cf y i).tdiv (gcdL (cf x i) (-cf y i))) x.1.1 x.1.2).bind fun f => (addS f.1 f.2 ((cf x i).tdiv (gcdL (cf x i) (-cf y i))) y.1.1 y.1.2).bind fun l => (scl ((-cf y i).tdiv (gcdL (cf x i) (-cf y i))) ((cf x i).tdiv (gcdL (cf x i) (-cf y i))) x.2 y.2).map fun s => (l, s) from by unfold joinD gq; rw [mx1_id hq0])
  clear bb y0 z0 hs0 hx hy hlx hly hpx hpy
  generalize joinD x y i = R at *
  go_enter Try.func78, Try.ntmps78
  go_upto_region 1 with fail
  generalize (((w.alloc (Obj.cells #[Value.int IntKind.i64 x.1.1, Value.slice A x.1.2.length a, Value.slice B x.2.length b] 70)).alloc (Obj.cells #[Value.int IntKind.i64 y.1.1, Value.slice C y.1.2.length c, Value.slice D y.2.length d] 70)).alloc (Obj.cells #[Value.int IntKind.i64 0, Value.slice none 0 0, Value.slice none 0 0] 70)) = W0 at *
  have hs0 := HS0.out
  obtain ⟨bx, ox, rfl, _, cx⟩ := IntK.at_ RA.out hi8
  obtain ⟨by', oy, rfl, _, cy⟩ := IntK.at_ RC.out hiy
  rw [← hcx] at cx
  rw [← hcy] at cy
  obtain ⟨q, hq⟩ : ∃ q : Int, -cf y i = q := ⟨_, rfl⟩
  obtain ⟨p, hp⟩ : ∃ p : Int, cf x i = p := ⟨_, rfl⟩
  have hqr : -1000000000 ≤ q ∧ q ≤ 1000000000 := by omega
  obtain ⟨v, hv⟩ : ∃ v : Int, cf y i = v := ⟨_, rfl⟩
  rw [hp] at cx hrx
  rw [hv] at cy hry hq
  rw [hp, hv, hq] at HJ hq0
  have hwq : IntKind.i64.wrap (-v) = q := by rw [← hq]; exact IntWalk.i64_in _ (by omega)
  have hi0 : (0 : Int) ≤ (i : Int) := by omega
  have hi1 : (i : Int) < (x.1.2.length : Int) := by omega
  have hi2 : (i : Int) < (y.1.2.length : Int) := by omega
  have x1 := X0.out.cell 1 (.slice (some ⟨bx, ox, none⟩) x.1.2.length a) rfl
  have y1 := Y0.out.cell 1 (.slice (some ⟨by', oy, none⟩) y.1.2.length c) rfl
  have GC := Lib.hid (fun W => ArithI.gcd p q W)
  clear hcx hcy hp hv hq hA hB hC hD
  generalize gcdL p q = g at *
  have hgz : (g == 0) = false := by simp; omega
  have hgz2 : ¬ g = 0 := by omega
  have hwa : IntKind.i64.wrap (q.tdiv g) = q.tdiv g := IntWalk.i64_in _ (by have := tdiv_bound (inC_iff.2 hqr) hq0; omega)
  have hwb : IntKind.i64.wrap (p.tdiv g) = p.tdiv g := IntWalk.i64_in _ (by have := tdiv_bound (inC_iff.2 hrx) hq0; omega)
  obtain ⟨qa, hqa⟩ : ∃ qa : Int, q.tdiv g = qa := ⟨_, rfl⟩
  obtain ⟨pb, hpb⟩ : ∃ pb : Int, p.tdiv g = pb := ⟨_, rfl⟩
  rw [hqa] at HJ hwa
  rw [hpb] at HJ hwb
  go_quiet (fail)
  go_wp2_with fail
  refine (Calls.mono (GC.out _)) ?_
  rintro e w1 ⟨rfl, b1⟩
  have b1 : Below W0.heap.size W0 w1 := (below_drewN (Below.refl _ _) _).trans b1
  go_upto_region 3 with fail
  go_quiet (fail)
  have b2 : Below W0.heap.size W0 (w1.drewN nq) := below_drewN b1 nq
  generalize w1.drewN nq = w2 at *
  have X2 := Lib.hid (X0.out.below b2)
  have Y2 := Lib.hid (Y0.out.below b2)
  have Z2 := Lib.hid (Z0.out.below b2)
  have RA2 := Lib.hid (RA.out.below b2)
  have RB2 := Lib.hid (RB.out.below b2)
  have RC2 := Lib.hid (RC.out.below b2)
  have RD2 := Lib.hid (RD.out.below b2)
  have B2 := Lib.hid (BB.out.trans (b2.mono BB.out.size))
  have hs2 := b2.size
  obtain ⟨s0, hcs⟩ : ∃ s0 : Int × List Int, constL 0 (x.1.2.length : Int) = s0 := ⟨_, rfl⟩
  have hcl : constL 0 (x.1.2.length : Int) = (0, List.replicate x.1.2.length 0) := by
    unfold constL
    rw [if_pos ⟨cntB_iff.2 (by omega), by decide⟩]
    simp
  have CO := Lib.hid (fun W => constC 0 (x.1.2.length : Int) W)
  rw [hcs] at CO
  have HJ2 := Lib.hid (show R = (addS s0.1 s0.2 qa x.1.1 x.1.2).bind fun f => (addS f.1 f.2 pb y.1.1 y.1.2).bind fun l => (scl qa pb x.2 y.2).map fun s => (l, s) from by rw [← hcs, hcl]; exact HJ.out)
  have hs08 : s0.2.length ≤ 8 := by rw [← hcs, hcl]; simpa using hnx
  clear b1 b2 X0 Y0 Z0 RA RB RC RD BB HJ GC x1 y1 cx cy hcs hcl
  have AS := Lib.hid (fun C0 c0 lo2 hi2 W (h1 : Below w2.heap.size w2 W) (h2 : Row lo2 hi2 W C0 (IntK.iv s0.2)) => addScaledC lo2 hi2 lo hi s0.1 qa x.1.1 C0 (some ⟨bx, ox, none⟩) c0 a s0.2 x.1.2 W h2 (RA2.out.below h1) (by omega) (by omega))
  have HR0 := Lib.hid (addS_len s0.1 s0.2 qa x.1.1 x.1.2)
  generalize addS s0.1 s0.2 qa x.1.1 x.1.2 = r0 at *
  have KS := Lib.hid (fun W (h : Below w2.heap.size w2 W) => (show W.cell? ⟨w.heap.size, 0, none⟩ = some (Value.int .i64 x.1.1) ∧ W.cell? ⟨w.heap.size, 1, none⟩ = some (Value.slice (some ⟨bx, ox, none⟩) x.1.2.length a) from ⟨(X2.out.below h).cell 0 _ rfl, (X2.out.below h).cell 1 _ rfl⟩))
  obtain ⟨k0, k1⟩ := KS.out w2 (Below.refl _ _)
  have lx := X2.out.lt
  go_upto_region 4 with fail
  go_cut [13, 14] (fun s t wx => AfterO w2 r0 s t wx)
  case first =>
    go_region_held3 (fun w' => w'.cell? ⟨w.heap.size, 0, none⟩ = some (Value.int .i64 x.1.1) ∧ w'.cell? ⟨w.heap.size, 1, none⟩ = some (Value.slice (some ⟨bx, ox, none⟩) x.1.2.length a))
      (first | with_reducible exact KS.out _ hd5 | with_reducible exact KS.out _ hd4 | with_reducible exact KS.out _ (Below.refl _ _).drew | with_reducible exact KS.out _ (hd5.alloc hd5.size _) | with_reducible exact KS.out _ (hd4.alloc hd4.size _) | with_reducible exact KS.out _ ((Below.refl _ _).alloc (Nat.le_refl _) _).drew | with_reducible exact KS.out _ ((hd5.setCell (by first | (simp; done) | (exact hd4.size)) _).setCell (by first | (simp; done) | (exact hd4.size)) _))
      (first
        | (go_at_call 52; refine (Calls.mono (CO.out _)) ?_; rintro e u4 ⟨C2, g2, rfl, rc2, fc2, b4, hg2⟩; (have hd4 : Below w2.heap.size w2 u4 := by first | exact ((Below.refl w2.heap.size w2).drew).trans (b4.mono ((Below.refl w2.heap.size w2).drew).size) | exact (((Below.refl w2.heap.size w2).alloc (Nat.le_refl _) _).drew).trans (b4.mono (((Below.refl w2.heap.size w2).alloc (Nat.le_refl _) _).drew).size)); (try (have v4 : Lvar u4 w2.heap.size #[Value.int .i64 0, Value.slice none 0 0] := ((Lvar.new w2 _ _).below (Below.refl _ _).drew).below b4)))
        | (go_at_call 73; refine (Calls.mono (AS.out C2 g2 _ _ _ (by first | exact hd4 | exact hd4.alloc hd4.size _) (rc2.below (by first | exact Below.refl _ _ | exact (Below.refl _ _).alloc (Nat.le_refl _) _)))) ?_; rintro e u5 ⟨Aw, cw, rfl, rw5, fw5, b5, hcw⟩; (have hs5' : Below u4.heap.size u4 u5 := by first | exact b5 | exact ((Below.refl _ _).alloc (Nat.le_refl _) _).trans (b5.mono (by simp))); (have hd5 := hd4.trans (hs5'.mono hd4.size)); (try (have v5 := v4.below hs5')); (try (have v5 : Lvar u5 u4.heap.size #[Value.int .i64 0, Value.slice none 0 0] := (Lvar.new u4 _ _).below b5)); (try (have z0 := v5.cell 0 (Value.int .i64 0) rfl)); (try (have z1 := v5.cell 1 (Value.slice none 0 0) rfl)); (try (have y0 := v5.frozen 0)); (try (have y1 := v5.frozen 1))))
    all_goals (go_wp2_with fail)
    all_goals go_meet
    all_goals first | exact afterO_new hd5 rw5 (by first | exact hd4.size | (have := hd4.size; simp; omega)) hcw | exact afterO_old hd5 v5 rw5 (by first | exact hd4.size | exact Nat.le_refl _) (by first | exact v4.lt | (simp; done) | (simp; omega)) hcw
  case rest =>
    obtain ⟨w3, rfl⟩ : ∃ w3 : World, w3 = wc := ⟨_, rfl⟩
    obtain ⟨b13, A1, c1, rfl, e14, hb13, V13, O13, hc13, d3⟩ := hcut
    have X3 := Lib.hid (X2.out.below d3)
    have Y3 := Lib.hid (Y2.out.below d3)
    have Z3 := Lib.hid (Z2.out.below d3)
    have RB3 := Lib.hid (RB2.out.below d3)
    have RC3 := Lib.hid (RC2.out.below d3)
    have RD3 := Lib.hid (RD2.out.below d3)
    have B3 := Lib.hid (B2.out.trans (d3.mono B2.out.size))
    have hs3 := d3.size
    have F3 := Lib.hid V13
    have RO3 := Lib.hid O13
    have h138 := HR0.out
    clear k0 k1 KS AS CO X2 Y2 Z2 RA2 RB2 RC2 RD2 d3 V13 O13 B2 HR0
    cases r0 with
    | none =>
      have e14 := (show _ = Value.bool false from e14)
      subst e14
      have q0 := Z3.out.cell 0 (.int .i64 0) rfl
      have q1 := Z3.out.cell 1 (.slice none 0 0) rfl
      have q2 := Z3.out.cell 2 (.slice none 0 0) rfl
      have p0 := Z3.out.frozen 0
      have p1 := Z3.out.frozen 1
      have p2 := Z3.out.frozen 2
      have HF := Lib.hid (show R = none from by rw [HJ2.out]; rfl)
      have HB := Lib.hid (((B3.out.setCell (p := ⟨w.heap.size + 1 + 1, 0, none⟩) (by simp; omega) (.int .i64 0)).setCell (p := ⟨w.heap.size + 1 + 1, 1, none⟩) (by simp; omega) (.slice none 0 0)).setCell (p := ⟨w.heap.size + 1 + 1, 2, none⟩) (by simp; omega) (.slice none 0 0))
      go_wp2
      refine bodyPost_ret (v := .tuple #[.agg #[.int .i64 0, .slice none 0 0, .slice none 0 0], .bool false]) (by simp [results, Try.results78, go_sem, q0, q1, q2]) rfl ?_
      rw [HF.out]
      exact gaveD_none HB.out
    | some f0 =>
      have e14 := (show _ = Value.bool true from e14)
      subst e14
      have F3 := Lib.hid (show Lvar w3 b13 #[.int .i64 f0.1, .slice A1 f0.2.length c1] from F3.out)
      have RO3 := Lib.hid (show Row w2.heap.size w3.heap.size w3 A1 (IntK.iv f0.2) from RO3.out)
      have h8 : f0.2.length ≤ 8 := h138
      have HJ3 := Lib.hid (show R = (addS f0.1 f0.2 pb y.1.1 y.1.2).bind fun l => (scl qa pb x.2 y.2).map fun s => (l, s) from HJ2.out)
      clear HJ2 h138 hc13
      have AS := Lib.hid (addScaledC _ _ _ _ f0.1 pb y.1.1 A1 (some ⟨by', oy, none⟩) c1 c f0.2 y.1.2 w3 RO3.out RC3.out (by omega) (by omega))
      generalize addS f0.1 f0.2 pb y.1.1 y.1.2 = r1 at *
      have k0 := F3.out.cell 0 (.int .i64 f0.1) rfl
      have k1 := F3.out.cell 1 (.slice A1 f0.2.length c1) rfl
      have k2 := Y3.out.cell 0 (.int .i64 y.1.1) rfl
      have k3 := Y3.out.cell 1 (.slice (some ⟨by', oy, none⟩) y.1.2.length c) rfl
      go_wp2_with fail
      refine (Calls.mono AS.out) ?_
      rintro e u4 ⟨A2, c2, rfl, r4, f4, b4, hc4⟩
      have ba := b4.alloc b4.size (Obj.cells #[Value.int IntKind.i64 (r1.getD (0, [])).1, Value.slice A2 (r1.getD (0, [])).2.length c2] 29)
      have tb : Below u4.heap.size u4 (u4.alloc (Obj.cells #[Value.int IntKind.i64 (r1.getD (0, [])).1, Value.slice A2 (r1.getD (0, [])).2.length c2] 29)) := (Below.refl _ _).alloc (Nat.le_refl _) _
      have V5 := Lib.hid (Lvar.new u4 #[Value.int IntKind.i64 (r1.getD (0, [])).1, Value.slice A2 (r1.getD (0, [])).2.length c2] 29)
      have RO5 := Lib.hid (r4.below tb)
      have hs4 := b4.size
      have TB := Lib.hid tb
      have BA := Lib.hid ba
      clear k0 k1 k2 k3 b4 f4 r4 tb ba AS F3 RO3
      go_upto_region 8 with fail
      have hs5 := TB.out.size
      generalize u4.alloc (Obj.cells #[Value.int IntKind.i64 (r1.getD (0, [])).1, Value.slice A2 (r1.getD (0, [])).2.length c2] 29) = w5 at *
      have X5 := Lib.hid (X3.out.below BA.out)
      have Y5 := Lib.hid (Y3.out.below BA.out)
      have Z5 := Lib.hid (Z3.out.below BA.out)
      have RB5 := Lib.hid (RB3.out.below BA.out)
      have RD5 := Lib.hid (RD3.out.below BA.out)
      have B5 := Lib.hid (B3.out.trans (BA.out.mono B3.out.size))
      clear X3 Y3 Z3 RB3 RC3 RD3 B3
      generalize hl0 : r1.getD (0, []) = l0 at *
      generalize hq1 : r1.isSome = q1 at *
      cases r1 with
      | none =>
        have hq1 := (show false = q1 from hq1)
        subst hq1
        have q0 := Z5.out.cell 0 (.int .i64 0) rfl
        have q1 := Z5.out.cell 1 (.slice none 0 0) rfl
        have q2 := Z5.out.cell 2 (.slice none 0 0) rfl
        have p0 := Z5.out.frozen 0
        have p1 := Z5.out.frozen 1
        have p2 := Z5.out.frozen 2
        have HF := Lib.hid (show R = none from by rw [HJ3.out]; rfl)
        have HB := Lib.hid (((B5.out.setCell (p := ⟨w.heap.size + 1 + 1, 0, none⟩) (by simp; omega) (.int .i64 0)).setCell (p := ⟨w.heap.size + 1 + 1, 1, none⟩) (by simp; omega) (.slice none 0 0)).setCell (p := ⟨w.heap.size + 1 + 1, 2, none⟩) (by simp; omega) (.slice none 0 0))
        go_wp2
        refine bodyPost_ret (v := .tuple #[.agg #[.int .i64 0, .slice none 0 0, .slice none 0 0], .bool false]) (by simp [results, Try.results78, go_sem, q0, q1, q2]) rfl ?_
        rw [HF.out]
        exact gaveD_none HB.out
      | some l =>
        have hl0 := (show l = l0 from hl0)
        have hq1 := (show true = q1 from hq1)
        subst hl0
        subst hq1
        have V5 := Lib.hid (show Lvar w5 u4.heap.size #[.int .i64 l.1, .slice A2 l.2.length c2] from V5.out)
        have RO5 := Lib.hid (show Row w3.heap.size u4.heap.size w5 A2 (IntK.iv l.2) from RO5.out)
        have hcl4 : l.2.length ≤ c2 := hc4
        have HJ4 := Lib.hid (show R = (scl qa pb x.2 y.2).map fun s => (l, s) from HJ3.out)
        clear HJ3 hc4
        have hmk := IntK.run_mk x.2.length (by have := HXY.out; omega)
        have k0 := X5.out.cell 2 (.slice B x.2.length b) rfl
        have START := Lib.hid (canRel_start w5 qa pb x.2 y.2 HXY.out.2)
        have hxl := HXY.out.2
        go_wp2
        clear k0
        go_loopw [7, 14, 17, 72] (fun _ _ _ s wr => CanRel w5 qa pb x.2 y.2 s wr) (fun _ _ _ s _ => x.2.length - (intOf s).toNat)
        case atStart => exact START.out
        case round =>
          obtain ⟨k, vs, hk, rfl, hvl, hscl, hown, hb, KL⟩ := hrel
          have KSC := Lib.hid hscl
          have KO := Lib.hid hown
          have KB := Lib.hid hb
          have KV := Lib.hid hvl
          clear hscl hown hb hvl START
          by_cases hlt : k < x.2.length
          · have hlt2 : k < y.2.length := by have := HXY.out.1; omega
            have X6 := X5.out.below KB.out
            have Y6 := Y5.out.below KB.out
            obtain ⟨bB, oB, rfl, hbB, cB⟩ := IntK.at_below RB5.out KB.out hlt
            obtain ⟨bD, oD, rfl, hbD, cD⟩ := IntK.at_below RD5.out KB.out hlt2
            have lx5 := X5.out.lt
            have ly5 := Y5.out.lt
            have kx := X6.cell 2 (.slice (some ⟨bB, oB, none⟩) x.2.length b) rfl
            have ky := Y6.cell 2 (.slice (some ⟨bD, oD, none⟩) y.2.length d) rfl
            have HY := Lib.hid (fun v h => scl_step (v := v) hlt hlt2 KSC.out h)
            have HN := Lib.hid (fun h => scl_stop hlt hlt2 KSC.out h)
            have hkl : k < (vs ++ List.replicate (x.2.length - vs.length) (0 : Int)).length := by
              have := KV.out
              simp only [List.length_append, List.length_replicate]
              omega
            obtain ⟨bm, om, em, _, cm⟩ := IntK.at_ KO.out.1 hkl
            injection em with em
            injection em with e1 e2
            subst e1
            subst e2
            rw [Nat.zero_add] at cm
            have KCM := Lib.hid cm
            have kfr := KO.out.2 (by omega) _ _ rfl k hkl
            rw [Nat.zero_add] at kfr
            generalize (vs ++ List.replicate (x.2.length - vs.length) (0 : Int))[k] = oldv at *
            have AP := Lib.hid (fun W => addProducts qa x.2[k] pb y.2[k] W)
            generalize x.2[k] = xk at *
            generalize y.2[k] = yk at *
            generalize hsc : scl1 qa pb xk yk = rs at *
            have lx6 := X6.lt
            have ly6 := Y6.lt
            have hlm := World.block_lt_of_cell? _ _ cm
            have hlB := World.block_lt_of_cell? _ _ cB
            have hlD := World.block_lt_of_cell? _ _ cD
            have hj0 : (0 : Int) ≤ (k : Int) := by omega
            have hj1 : (k : Int) < (x.2.length : Int) := by omega
            have hj2 : (k : Int) < (y.2.length : Int) := by omega
            have KS := Lib.hid (fun W (h : Mod w5.heap.size (w5.heap.size + 1) wr W) => (show W.cell? ⟨w.heap.size, 2, none⟩ = some (.slice (some ⟨bB, oB, none⟩) x.2.length b) ∧ W.cell? ⟨w.heap.size + 1, 2, none⟩ = some (.slice (some ⟨bD, oD, none⟩) y.2.length d) ∧ W.cell? ⟨bB, oB + k, none⟩ = some (Value.int .i64 xk) ∧ W.cell? ⟨bD, oD + k, none⟩ = some (Value.int .i64 yk) from
              ⟨h.cell kx (Or.inl lx5), h.cell ky (Or.inl ly5), h.cell cB (Or.inl (by omega)), h.cell cD (Or.inl (by omega))⟩))
            have KM := Lib.hid (fun W (h : Below wr.heap.size wr W) => (show W.cell? ⟨w5.heap.size, k, none⟩ = some (Value.int .i64 oldv) ∧ W.frozen? ⟨w5.heap.size, k, none⟩ = false from
              ⟨(h.cell (p := ⟨w5.heap.size, k, none⟩) hlm).trans cm, by rw [World.frozen?_of_block (w := wr) (h.block w5.heap.size hlm)]; exact kfr⟩))
            clear X6 Y6 cm kfr
            go_upto_region 14 with fail
            clear kx ky cB cD
            obtain ⟨k0, k1, k2, k3⟩ := KS.out wr (Mod.refl _ _ _)
            go_region_held3 (fun w' => w'.cell? ⟨w.heap.size, 2, none⟩ = some (.slice (some ⟨bB, oB, none⟩) x.2.length b) ∧ w'.cell? ⟨w.heap.size + 1, 2, none⟩ = some (.slice (some ⟨bD, oD, none⟩) y.2.length d) ∧ w'.cell? ⟨bB, oB + k, none⟩ = some (Value.int .i64 xk) ∧ w'.cell? ⟨bD, oD + k, none⟩ = some (Value.int .i64 yk))
              (first | with_reducible exact KS.out _ (Mod.of_below hd5) | with_reducible exact KS.out _ (Mod.of_below (Below.refl _ _).drew) | with_reducible exact KS.out _ ((Mod.of_below hd5).trans (Mod.set _ (p := ⟨w5.heap.size, k, none⟩) (Nat.le_refl _) (Nat.lt_succ_self _) _)) | go_keep)
              ((go_at_call 96; refine (Calls.mono (AP.out _)) ?_; rintro e u6 ⟨rfl, b6⟩; (have hd5 : Below wr.heap.size wr u6 := ((Below.refl wr.heap.size wr).drew).trans b6); (obtain ⟨cmm, fmm⟩ := KM.out u6 hd5)))
            have b57 := (KB.out.trans (hd5.mono KB.out.size)).setCell (p := ⟨w5.heap.size, k, none⟩) (Nat.le_refl _) (.int .i64 (rs.getD 0))
            have B57 := Lib.hid b57
            have Z7 := Lib.hid (Z5.out.below b57)
            have B7 := Lib.hid (B5.out.trans (b57.mono B5.out.size))
            have OW := Lib.hid (KO.out.below hd5)
            have hs6 := hd5.size
            clear b57 hd5 b6 cmm fmm k0 k1 k2 k3 KS KM AP KO KB
            cases rs with
            | none =>
              generalize u6.setCell ⟨w5.heap.size, k, none⟩ (.int .i64 ((none : Option Int).getD 0)) = w7 at *
              have q0 := Z7.out.cell 0 (.int .i64 0) rfl
              have q1 := Z7.out.cell 1 (.slice none 0 0) rfl
              have q2 := Z7.out.cell 2 (.slice none 0 0) rfl
              have p0 := Z7.out.frozen 0
              have p1 := Z7.out.frozen 1
              have p2 := Z7.out.frozen 2
              have HF := Lib.hid (show R = none from by rw [HJ4.out, HN.out rfl]; rfl)
              have HB := Lib.hid (((B7.out.setCell (p := ⟨w.heap.size + 1 + 1, 0, none⟩) (by simp; omega) (.int .i64 0)).setCell (p := ⟨w.heap.size + 1 + 1, 1, none⟩) (by simp; omega) (.slice none 0 0)).setCell (p := ⟨w.heap.size + 1 + 1, 2, none⟩) (by simp; omega) (.slice none 0 0))
              go_wp2
              refine bodyPost_ret (v := .tuple #[.agg #[.int .i64 0, .slice none 0 0, .slice none 0 0], .bool false]) (by simp [results, Try.results78, go_sem, q0, q1, q2]) rfl ?_
              rw [HF.out]
              exact gaveD_none HB.out
            | some v =>
              have hst := store_iv OW.out.1 hkl v
              rw [Nat.zero_add, ← KV.out, row_snoc vs x.2.length (by have := KV.out; omega) v] at hst
              have HST := Lib.hid hst
              have hfr : Free (u6.setCell ⟨w5.heap.size, k, none⟩ (.int .i64 v)) (some ⟨w5.heap.size, 0, none⟩) (vs ++ [v] ++ List.replicate (x.2.length - (vs ++ [v]).length) (0 : Int)).length := by
                have h := OW.out.2.set ⟨w5.heap.size, k, none⟩ (.int .i64 v)
                rw [show (vs ++ [v] ++ List.replicate (x.2.length - (vs ++ [v]).length) (0 : Int)).length = (vs ++ List.replicate (x.2.length - vs.length) (0 : Int)).length by have := KV.out; simp; omega]
                exact h
              have HFR := Lib.hid hfr
              have HT := Lib.hid (HY.out v rfl)
              have hwk : IntKind.i64.wrap ((k : Int) + 1) = (k : Int) + 1 := IntWalk.i64_in _ (by omega)
              clear hst hfr HN HY OW
              go_wp2
              go_roundw
              case rel =>

               exact ⟨k + 1, vs ++ [v], by omega, by go_num, by have := KV.out; simp; omega, HT.out, ⟨by have h := HST.out; rw [KV.out] at h; exact h, HFR.out⟩, B57.out, by simp; omega⟩
              case measure => simp [intOf]; omega
          · obtain rfl : k = x.2.length := by omega
            have hlz : decide ((x.2.length : Int) < (x.2.length : Int)) = false := by simp
            have hsc := KSC.out
            rw [List.take_length, show y.2.take x.2.length = y.2 from List.take_of_length_le (by have := HXY.out.1; omega)] at hsc
            have HF := Lib.hid (show R = some (l, vs) from by rw [HJ4.out, hsc]; rfl)
            have hr := KO.out.1
            rw [show x.2.length - vs.length = 0 by have := KV.out; omega, List.replicate_zero, List.append_nil] at hr
            have hvl := KV.out
            have V6 := V5.out.below KB.out
            have Z6 := Z5.out.below KB.out
            have k0 := V6.cell 0 (.int .i64 l.1) rfl
            have k1 := V6.cell 1 (.slice A2 l.2.length c2) rfl
            have q0 := Z6.cell 0 (.int .i64 0) rfl
            have q1 := Z6.cell 1 (.slice none 0 0) rfl
            have q2 := Z6.cell 2 (.slice none 0 0) rfl
            have p0 := Z6.frozen 0
            have p1 := Z6.frozen 1
            have p2 := Z6.frozen 2
            have mm : Mod (w.heap.size + 1 + 1) (w.heap.size + 1 + 1 + 1) wr (((wr.setCell ⟨w.heap.size + 1 + 1, 0, none⟩ (.int .i64 l.1)).setCell ⟨w.heap.size + 1 + 1, 1, none⟩ (.slice A2 l.2.length c2)).setCell ⟨w.heap.size + 1 + 1, 2, none⟩ (.slice (some ⟨w5.heap.size, 0, none⟩) x.2.length x.2.length)) :=
              ((Mod.set _ (p := ⟨w.heap.size + 1 + 1, 0, none⟩) (Nat.le_refl _) (Nat.lt_succ_self _) _).trans (Mod.set _ (p := ⟨w.heap.size + 1 + 1, 1, none⟩) (Nat.le_refl _) (Nat.lt_succ_self _) _)).trans (Mod.set _ (p := ⟨w.heap.size + 1 + 1, 2, none⟩) (Nat.le_refl _) (Nat.lt_succ_self _) _)
            have hsr := KB.out.size
            have hfin : GaveD w R (.returned (.tuple #[.agg #[.int .i64 l.1, .slice A2 l.2.length c2, .slice (some ⟨w5.heap.size, 0, none⟩) x.2.length x.2.length], .bool true])) _ := ⟨_, _, _, _, _, _, _, by rw [HF.out]; rfl, fun dd hdd => by
              rw [HF.out] at hdd
              injection hdd with hdd
              subst hdd
              exact ⟨rfl, rfl, hvl.symm, hcl4, Nat.le_refl _, ((RO5.out.below KB.out).keep mm (Or.inr (by omega))).wider (by omega) (Nat.le_trans (by omega) mm.size) (Nat.le_refl _), (hr.keep mm (Or.inr (by omega))).wider (by omega) (Nat.le_trans KL mm.size) (Nat.le_refl _)⟩, below_mod (B5.out.trans (KB.out.mono B5.out.size)) mm (by omega) (Nat.le_trans B5.out.size KB.out.size)⟩
            have HFIN := Lib.hid hfin
            clear hfin mm hr hsc V6 Z6
            go_wp2
            refine bodyPost_ret (v := .tuple #[.agg #[.int .i64 l.1, .slice A2 l.2.length c2, .slice (some ⟨w5.heap.size, 0, none⟩) x.2.length x.2.length], .bool true]) (by simp [results, Try.results78, go_sem, q0, q1, q2]) rfl HFIN.out
end ElimI
end Go.Proofs.Ytmkelfjnjnjgbaa
