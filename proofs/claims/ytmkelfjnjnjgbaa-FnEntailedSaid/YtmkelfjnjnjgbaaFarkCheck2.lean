import Derived.Test.YtmkelfjnjnjgbaaFarkSum
import Derived.Test.YtmkelfjnjnjgbaaLinK
import Derived.IntWalk
import Derived.Deep.RegionHeld3
/-
  The program's certificates: CombineRows, the refutation's sum.
-/
namespace Go.Proofs.Ytmkelfjnjnjgbaa
open Go.RowKit
namespace FarkI
open RowK Mem LinM FarkM LinI

/-- The cells of a refutation. -/
def refV (N : Int) (A M T : Option Addr) (n m k c d e : Nat) (tz sc : Int) : Value := .agg #[.int .i64 N, .slice A n c, .slice M m d, .int .i64 tz, .slice T k e, .int .i64 sc]
set_option maxHeartbeats 4000000 in
set_option maxRecDepth 100000 in
theorem refC (lo hi lo' hi' : Nat) (N : Int) (A M T : Option Addr) (c d e0 : Nat) (xs : List (Int × List Int)) (ms : List Int) (tz : Int) (ts : List Int) (sc : Int) (w : World) (hA : SysK.Arg w A xs.length c xs) (hl : linsSize xs ≤ 1000000000) (hM : Row lo hi w M (IntK.iv ms)) (hlm : ms.length ≤ 1000000000) (hT : Row lo' hi' w T (IntK.iv ts)) (hlt : ts.length ≤ 1000000000) :
    Calls Try.prog 81 #[.agg #[.int .i64 N, .slice A xs.length c, .slice M ms.length d, .int .i64 tz, .slice T ts.length e0, .int .i64 sc]] w (GaveOC w (refS N xs (tz, ts) sc ms)) := by
  have bb : Below w.heap.size w ((w.alloc (Obj.cells #[Value.int IntKind.i64 N, Value.slice A xs.length c, Value.slice M ms.length d, Value.int IntKind.i64 tz, Value.slice T ts.length e0, Value.int IntKind.i64 sc] 112)).alloc (Obj.cells #[Value.int IntKind.i64 0, Value.slice none 0 0] 29)) := ((Below.refl _ _).alloc (Nat.le_refl _) _).alloc (by simp) _
  have L1 := Lib.hid ((Lvar.new w #[Value.int IntKind.i64 N, Value.slice A xs.length c, Value.slice M ms.length d, Value.int IntKind.i64 tz, Value.slice T ts.length e0, Value.int IntKind.i64 sc] 112).alloc (Obj.cells #[Value.int IntKind.i64 0, Value.slice none 0 0] 29))
  have L2 := Lvar.new (w.alloc (Obj.cells #[Value.int IntKind.i64 N, Value.slice A xs.length c, Value.slice M ms.length d, Value.int IntKind.i64 tz, Value.slice T ts.length e0, Value.int IntKind.i64 sc] 112)) #[Value.int IntKind.i64 0, Value.slice none 0 0] 29
  simp only [World.size_alloc] at L2
  have L2 := Lib.hid L2
  have BB := Lib.hid bb
  have MU := Lib.hid (mult sc)
  have SU := Lib.hid (sumC lo hi N A M c d xs ms _ (hA.below bb) hl (hM.below bb) hlm)
  have CO := Lib.hid (fun W => constC 1 N W)
  have hc8 := Lib.hid (constL_small 1 N)
  have hr8 := Lib.hid (combR_small N xs ms)
  have HT := Lib.hid hT
  have v0 := L1.out.cell 0 (.int .i64 N) rfl
  have v1 := L1.out.cell 1 (.slice A xs.length c) rfl
  have v2 := L1.out.cell 2 (.slice M ms.length d) rfl
  have v5 := L1.out.cell 5 (.int .i64 sc) rfl
  have q0 := L2.out.cell 0 (.int .i64 0) rfl
  have q1 := L2.out.cell 1 (.slice none 0 0) rfl
  have p0 := L2.out.frozen 0
  have p1 := L2.out.frozen 1
  have HR := Lib.hid (show refS N xs (tz, ts) sc ms = if scB sc = true then (combR N xs ms).bind fun s => (addS tz ts 1 (constL 1 N).1 (constL 1 N).2).bind fun m => addS s.1 s.2 (-sc) m.1 m.2 else none from rfl)
  generalize refS N xs (tz, ts) sc ms = R at *
  generalize combR N xs ms = r at *
  generalize constL 1 N = s0 at *
  clear bb hA hM hT hl
  cases hsc : scB sc with
  | false =>
    have HF := Lib.hid (show R = none by rw [HR.out, hsc]; rfl)
    rw [hsc] at MU
    clear hsc L1 L2 SU
    go_enter Try.func81, Try.ntmps81
    go_wp2_with fail
    refine (Calls.mono (MU.out _)) ?_
    rintro e w1 ⟨rfl, rfl⟩
    go_wp2
    refine bodyPost_ret (v := .tuple #[.agg #[.int .i64 0, .slice none 0 0], .bool false]) (by simp [results, Try.results81, go_sem, q0, q1]) rfl ?_
    rw [HF.out]
    exact gaveOC_none BB.out
  | true =>
    have hsc' : 0 ≤ sc ∧ sc ≤ 1000000000 := by unfold scB at hsc; simpa using hsc
    have hneg : IntKind.i64.wrap (-sc) = -sc := IntWalk.i64_in _ (by omega)
    have HNEG := Lib.hid hneg
    have HSC := Lib.hid hsc
    rw [hsc] at MU
    clear hsc hsc' hneg
    go_enter Try.func81, Try.ntmps81
    go_wp2_with fail
    refine (Calls.mono (MU.out _)) ?_
    rintro e w0 ⟨rfl, rfl⟩
    go_wp2_with fail
    refine (Calls.mono SU.out) ?_
    rintro e w1 ⟨G, g, e1, r1, f1, b1, hg1⟩
    have M1 := L1.out.below b1
    have M2 := L2.out.below b1
    have B1 := BB.out.trans (b1.mono BB.out.size)
    have hs1 := b1.size
    simp only [World.size_alloc] at hs1 r1
    clear b1 L1 L2 BB SU MU v0 v1 v2 v5 q0 q1 p0 p1
    cases r with
    | none =>
      have e1 := (show e = .returned (.tuple #[.agg #[.int .i64 0, .slice G 0 g], .bool false]) from e1)
      subst e1
      have HF := Lib.hid (show R = none by rw [HR.out, HSC.out]; rfl)
      have a2 : Below w1.heap.size w1 (w1.alloc (Obj.cells #[Value.int IntKind.i64 0, Value.slice G 0 g] 29)) := (Below.refl _ _).alloc (Nat.le_refl _) _
      have Z2 := Lib.hid (M2.below a2)
      have B2 := Lib.hid (B1.trans (a2.mono B1.size))
      clear M1 M2 B1 r1 f1 a2
      go_upto_region 4 with fail
      generalize w1.alloc (Obj.cells #[Value.int IntKind.i64 0, Value.slice G 0 g] 29) = W2 at *
      have q0 := Z2.out.cell 0 (.int .i64 0) rfl
      have q1 := Z2.out.cell 1 (.slice none 0 0) rfl
      have p0 := Z2.out.frozen 0
      have p1 := Z2.out.frozen 1
      have HB := Lib.hid ((B2.out.setCell (p := ⟨w.heap.size + 1, 0, none⟩) (by simp) (.int .i64 0)).setCell (p := ⟨w.heap.size + 1, 1, none⟩) (by simp) (.slice none 0 0))
      go_wp2
      refine bodyPost_ret (v := .tuple #[.agg #[.int .i64 0, .slice none 0 0], .bool false]) (by simp [results, Try.results81, go_sem, q0, q1]) rfl ?_
      rw [HF.out]
      exact gaveOC_none HB.out
    | some s =>
      have e1 := (show e = .returned (.tuple #[.agg #[.int .i64 s.1, .slice G s.2.length g], .bool true]) from e1)
      subst e1
      have h8 : s.2.length ≤ 8 := hr8.out
      have r1 := (show Row (w.heap.size + 1 + 1) w1.heap.size w1 G (IntK.iv s.2) from r1)
      have a2 : Below w1.heap.size w1 (w1.alloc (Obj.cells #[Value.int IntKind.i64 s.1, Value.slice G s.2.length g] 29)) := (Below.refl _ _).alloc (Nat.le_refl _) _
      have lw1 := M1.lt
      have lz := M2.lt
      have M3 := Lvar.new w1 #[Value.int IntKind.i64 s.1, Value.slice G s.2.length g] 29
      have B2 := Lib.hid (B1.trans (a2.mono B1.size))
      have V2 := Lib.hid (M1.below a2)
      have Z2 := Lib.hid (M2.below a2)
      have U2 := Lib.hid M3
      have R2 := Lib.hid (r1.below a2)
      have HR2 := Lib.hid (show R = (addS tz ts 1 s0.1 s0.2).bind fun m => addS s.1 s.2 (-sc) m.1 m.2 by rw [HR.out, HSC.out]; rfl)
      have hu : w1.heap.size < (w1.alloc (Obj.cells #[Value.int IntKind.i64 s.1, Value.slice G s.2.length g] 29)).heap.size := by simp
      have HU := Lib.hid hu
      clear M1 M2 M3 B1 r1 f1 a2 HR hu
      go_wp2_with fail
      go_upto_region 6 with fail
      generalize w1.alloc (Obj.cells #[Value.int IntKind.i64 s.1, Value.slice G s.2.length g] 29) = W2 at *
      have AS := Lib.hid (fun C c2 lo2 hi2 W (h1 : Below W2.heap.size W2 W) (h2 : Row lo2 hi2 W C (IntK.iv s0.2)) => addScaledC lo' hi' lo2 hi2 tz 1 s0.1 T C e0 c2 ts s0.2 W (HT.out.below (B2.out.trans (h1.mono B2.out.size))) h2 hlt (by have := hc8.out; omega))
      have HRS := Lib.hid (fun m (h : addS tz ts 1 s0.1 s0.2 = some m) => addS_small (a := (tz, ts)) (x := s0) h)
      generalize addS tz ts 1 s0.1 s0.2 = ra at *
      have KS := Lib.hid (fun W (h : Below W2.heap.size W2 W) => (show W.cell? ⟨w.heap.size, 3, none⟩ = some (Value.int .i64 tz) ∧ W.cell? ⟨w.heap.size, 4, none⟩ = some (Value.slice T ts.length e0) ∧ W.cell? ⟨w.heap.size, 0, none⟩ = some (Value.int .i64 N) from ⟨(V2.out.below h).cell 3 _ rfl, (V2.out.below h).cell 4 _ rfl, (V2.out.below h).cell 0 _ rfl⟩))
      obtain ⟨k3, k4, k0⟩ := KS.out W2 (Below.refl _ _)
      have lv2 := V2.out.lt
      go_cut [6, 5] (fun s6 s5 wx => LinK.AfterO W2 (ra.getD (0, [])) ra.isSome s6 s5 wx)
      case first =>
        go_region_held3 (fun w' => w'.cell? ⟨w.heap.size, 3, none⟩ = some (Value.int .i64 tz) ∧ w'.cell? ⟨w.heap.size, 4, none⟩ = some (Value.slice T ts.length e0) ∧ w'.cell? ⟨w.heap.size, 0, none⟩ = some (Value.int .i64 N))
          (first | exact KS.out _ hd5 | exact KS.out _ hd4 | exact KS.out _ (Below.refl _ _).drew | exact KS.out _ (hd5.alloc hd5.size _) | exact KS.out _ (hd4.alloc hd4.size _) | exact KS.out _ ((Below.refl _ _).alloc (Nat.le_refl _) _).drew | exact KS.out _ ((hd5.setCell (by first | (simp; done) | (exact hd4.size)) _).setCell (by first | (simp; done) | (exact hd4.size)) _))
          (first
            | (go_at_call 52; refine (Calls.mono (CO.out _)) ?_; rintro e u4 ⟨C2, g2, rfl, rc2, fc2, b4, hg2⟩; (have hd4 : Below W2.heap.size W2 u4 := by first | exact ((Below.refl W2.heap.size W2).drew).trans (b4.mono ((Below.refl W2.heap.size W2).drew).size) | exact (((Below.refl W2.heap.size W2).alloc (Nat.le_refl _) _).drew).trans (b4.mono (((Below.refl W2.heap.size W2).alloc (Nat.le_refl _) _).drew).size)); (try (have v4 : Lvar u4 W2.heap.size #[Value.int .i64 0, Value.slice none 0 0] := ((Lvar.new W2 _ _).below (Below.refl _ _).drew).below b4)))
            | (go_at_call 73; refine (Calls.mono (AS.out C2 g2 _ _ _ (by first | exact hd4 | exact hd4.alloc hd4.size _) (rc2.below (by first | exact Below.refl _ _ | exact (Below.refl _ _).alloc (Nat.le_refl _) _)))) ?_; rintro e u5 ⟨Aw, cw, rfl, rw5, fw5, b5, hcw⟩; (have hs5 : Below u4.heap.size u4 u5 := by first | exact b5 | exact ((Below.refl _ _).alloc (Nat.le_refl _) _).trans (b5.mono (by simp))); (have hd5 := hd4.trans (hs5.mono hd4.size)); (try (have v5 := v4.below hs5)); (try (have v5 : Lvar u5 u4.heap.size #[Value.int .i64 0, Value.slice none 0 0] := (Lvar.new u4 _ _).below b5)); (try (have z0 := v5.cell 0 (Value.int .i64 0) rfl)); (try (have z1 := v5.cell 1 (Value.slice none 0 0) rfl)); (try (have y0 := v5.frozen 0)); (try (have y1 := v5.frozen 1))))
        all_goals (go_wp2_with fail)
        all_goals go_meet
        all_goals first | exact LinK.afterO_new hd5 rw5 fw5 (by first | exact hd4.size | (have := hd4.size; simp; omega)) | exact LinK.afterO_old hd5 v5 rw5 fw5 (by first | exact hd4.size | exact Nat.le_refl _) (by first | exact v4.lt | (simp; done) | (simp; omega))
      case rest =>
        obtain ⟨bm, Am, cm, rfl, e5, hbm, Vm, Om, d5⟩ := hcut
        have U3 := Lib.hid (U2.out.below d5)
        have Z3 := Lib.hid (Z2.out.below d5)
        have V3 := Lib.hid (V2.out.below d5)
        have R3 := Lib.hid (R2.out.below d5)
        have B3 := Lib.hid (B2.out.trans (d5.mono B2.out.size))
        have hs5 := d5.size
        have VM := Lib.hid Vm
        have OM := Lib.hid Om
        clear U2 Z2 V2 R2 B2 d5 KS AS CO Vm Om k3 k4 k0
        have q0 := Z3.out.cell 0 (.int .i64 0) rfl
        have q1 := Z3.out.cell 1 (.slice none 0 0) rfl
        have p0 := Z3.out.frozen 0
        have p1 := Z3.out.frozen 1
        cases ra with
        | none =>
          have e5 := (show _ = Value.bool false from e5)
          subst e5
          have HF := Lib.hid (show R = none from HR2.out)
          have HB := Lib.hid ((B3.out.setCell (p := ⟨w.heap.size + 1, 0, none⟩) (by simp) (.int .i64 0)).setCell (p := ⟨w.heap.size + 1, 1, none⟩) (by simp) (.slice none 0 0))
          go_wp2
          refine bodyPost_ret (v := .tuple #[.agg #[.int .i64 0, .slice none 0 0], .bool false]) (by simp [results, Try.results81, go_sem, q0, q1]) rfl ?_
          rw [HF.out]
          exact gaveOC_none HB.out
        | some m =>
          have e5 := (show _ = Value.bool true from e5)
          subst e5
          have hm8 : m.2.length ≤ 8 := HRS.out m rfl
          have HF := Lib.hid (show R = addS s.1 s.2 (-sc) m.1 m.2 from HR2.out)
          have OM2 := (show IntK.Own W2.heap.size wc.heap.size wc Am m.2 from OM.out)
          have AF := Lib.hid (addScaledC _ _ _ _ s.1 (-sc) m.1 G Am g cm s.2 m.2 wc R3.out OM2.1 (by omega) (by omega))
          have u0 := U3.out.cell 0 (.int .i64 s.1) rfl
          have u1 := U3.out.cell 1 (.slice G s.2.length g) rfl
          have v5 := V3.out.cell 5 (.int .i64 sc) rfl
          have m0 := VM.out.cell 0 (.int .i64 m.1) rfl
          have m1 := VM.out.cell 1 (.slice Am m.2.length cm) rfl
          rw [← HF.out] at AF
          have hneg := HNEG.out
          clear OM2 HF HR2 HRS q0 q1 p0 p1
          go_wp2_with fail
          refine (Calls.mono AF.out) ?_
          rintro e w6 ⟨F, f, rfl, r6, f6, b6, hf6⟩
          have Z6 := Lib.hid (Z3.out.below b6)
          have B6 := Lib.hid (B3.out.trans (b6.mono B3.out.size))
          have hs6 := b6.size
          have q0 := Z6.out.cell 0 (.int .i64 0) rfl
          have q1 := Z6.out.cell 1 (.slice none 0 0) rfl
          have p0 := Z6.out.frozen 0
          have p1 := Z6.out.frozen 1
          have hmod : Mod (w.heap.size + 1) (w.heap.size + 1 + 1) w6 ((w6.setCell ⟨w.heap.size + 1, 0, none⟩ (.int .i64 (R.getD (0, [])).1)).setCell ⟨w.heap.size + 1, 1, none⟩ (.slice F (R.getD (0, [])).2.length f)) := (Mod.set _ (p := ⟨w.heap.size + 1, 0, none⟩) (Nat.le_refl _) (Nat.lt_succ_self _) _).trans (Mod.set _ (p := ⟨w.heap.size + 1, 1, none⟩) (Nat.le_refl _) (Nat.lt_succ_self _) _)
          have HU' := HU.out
          have HK := Lib.hid (And.intro ((r6.keep hmod (Or.inr (by omega))).wider (lo' := w.heap.size) (by omega) hmod.size (Nat.le_refl _)) (And.intro (f6.keep r6 (by rw [IntK.iv_len]; exact Nat.le_refl _) hmod (Or.inr (by omega))) (below_mod B6.out hmod (by omega) B6.out.size)))
          clear hmod b6 r6 f6 u0 u1 v5 m0 m1
          go_wp2
          refine bodyPost_ret (v := .tuple #[.agg #[.int .i64 (R.getD (0, [])).1, .slice F (R.getD (0, [])).2.length f], .bool R.isSome]) (by simp [results, Try.results81, go_sem, q0, q1]) rfl ⟨F, f, rfl, HK.out.1, HK.out.2.1, HK.out.2.2, hf6⟩
end FarkI
end Go.Proofs.Ytmkelfjnjnjgbaa

/-
  The program's certificates: the checks.
-/
namespace Go.Proofs.Ytmkelfjnjnjgbaa
open Go.RowKit
namespace FarkI
open RowK Mem LinM FarkM LinI

set_option maxHeartbeats 1000000 in
set_option maxRecDepth 100000 in
theorem contraRef (v : Value) (r : Option (Int × List Int)) (w : World) (h8 : (r.getD (0, [])).2.length ≤ 1000000000) (hc : ∀ W, Below w.heap.size w W → Calls Try.prog 81 #[v] W (GaveOC W r)) :
    Calls Try.prog 80 #[.func (.func 81) #[v] #[]] w fun e w' => e = .returned (.bool (contra r)) ∧ Below w.heap.size w w' := by
  have HC := Lib.hid hc
  clear hc
  cases r with
  | none =>
    go_enter Try.func80, Try.ntmps80
    go_wp2_with fail
    refine (Calls.mono (HC.out _ (Below.refl _ _))) ?_
    rintro e w1 ⟨G, g, e1, r1, f1, b1, hg1⟩
    have e1 := (show e = .returned (.tuple #[.agg #[.int .i64 0, .slice G 0 g], .bool false]) from e1)
    subst e1
    have HB := Lib.hid (b1.alloc b1.size (Obj.cells #[Value.int IntKind.i64 0, Value.slice G 0 g] 29))
    clear r1 f1 b1
    go_wp2
    go_ret
    exact ⟨rfl, HB.out⟩
  | some s =>
    go_enter Try.func80, Try.ntmps80
    go_wp2_with fail
    refine (Calls.mono (HC.out _ (Below.refl _ _))) ?_
    rintro e w1 ⟨G, g, e1, r1, f1, b1, hg1⟩
    have e1 := (show e = .returned (.tuple #[.agg #[.int .i64 s.1, .slice G s.2.length g], .bool true]) from e1)
    subst e1
    have r1 := (show Row w.heap.size w1.heap.size w1 G (IntK.iv s.2) from r1)
    have a2 : Below w1.heap.size w1 (w1.alloc (Obj.cells #[Value.int IntKind.i64 s.1, Value.slice G s.2.length g] 29)) := (Below.refl _ _).alloc (Nat.le_refl _) _
    have IC := Lib.hid (isConst _ _ s.1 G g s.2 _ (r1.below a2) h8)
    have HB := Lib.hid (b1.alloc b1.size (Obj.cells #[Value.int IntKind.i64 s.1, Value.slice G s.2.length g] 29))
    have HV := Lib.hid (Lvar.new w1 #[Value.int IntKind.i64 s.1, Value.slice G s.2.length g] 29)
    have HR := Lib.hid (show contra (some s) = (isC s.2 && decide (s.1 < 0)) from rfl)
    clear r1 f1 b1 a2
    go_wp2_with fail
    refine (Calls.mono IC.out) ?_
    rintro e w2 ⟨rfl, b2⟩
    have V2 := Lib.hid (HV.out.below b2)
    have B2 := Lib.hid (HB.out.trans (b2.mono HB.out.size))
    have v0 := V2.out.cell 0 (.int .i64 s.1) rfl
    clear b2
    generalize isC s.2 = t at *
    cases t with
    | false =>
      have HF := Lib.hid (show contra (some s) = false from HR.out)
      go_wp2
      go_ret
      exact ⟨by rw [HF.out]; try rfl, B2.out⟩
    | true =>
      by_cases hs : s.1 < 0
      · have HF := Lib.hid (show contra (some s) = true by rw [HR.out, decide_eq_true hs]; rfl)
        have hs' : decide (s.1 < 0) = true := decide_eq_true hs
        clear hs
        go_wp2
        go_ret
        exact ⟨by rw [HF.out]; try simp, B2.out⟩
      · have HF := Lib.hid (show contra (some s) = false by rw [HR.out, decide_eq_false hs]; rfl)
        have hs' : decide (s.1 < 0) = false := decide_eq_false hs
        clear hs
        go_wp2
        go_ret
        exact ⟨by rw [HF.out]; try simp, B2.out⟩

set_option maxHeartbeats 1000000 in
set_option maxRecDepth 100000 in
theorem contraRows (v : Value) (r : Option (Int × List Int)) (w : World) (h8 : (r.getD (0, [])).2.length ≤ 1000000000) (hc : ∀ W, Below w.heap.size w W → Calls Try.prog 99 #[v] W (GaveOC W r)) :
    Calls Try.prog 80 #[.func (.func 99) #[v] #[]] w fun e w' => e = .returned (.bool (contra r)) ∧ Below w.heap.size w w' := by
  have HC := Lib.hid hc
  clear hc
  cases r with
  | none =>
    go_enter Try.func80, Try.ntmps80
    go_wp2_with fail
    refine (Calls.mono (HC.out _ (Below.refl _ _))) ?_
    rintro e w1 ⟨G, g, e1, r1, f1, b1, hg1⟩
    have e1 := (show e = .returned (.tuple #[.agg #[.int .i64 0, .slice G 0 g], .bool false]) from e1)
    subst e1
    have HB := Lib.hid (b1.alloc b1.size (Obj.cells #[Value.int IntKind.i64 0, Value.slice G 0 g] 29))
    clear r1 f1 b1
    go_wp2
    go_ret
    exact ⟨rfl, HB.out⟩
  | some s =>
    go_enter Try.func80, Try.ntmps80
    go_wp2_with fail
    refine (Calls.mono (HC.out _ (Below.refl _ _))) ?_
    rintro e w1 ⟨G, g, e1, r1, f1, b1, hg1⟩
    have e1 := (show e = .returned (.tuple #[.agg #[.int .i64 s.1, .slice G s.2.length g], .bool true]) from e1)
    subst e1
    have r1 := (show Row w.heap.size w1.heap.size w1 G (IntK.iv s.2) from r1)
    have a2 : Below w1.heap.size w1 (w1.alloc (Obj.cells #[Value.int IntKind.i64 s.1, Value.slice G s.2.length g] 29)) := (Below.refl _ _).alloc (Nat.le_refl _) _
    have IC := Lib.hid (isConst _ _ s.1 G g s.2 _ (r1.below a2) h8)
    have HB := Lib.hid (b1.alloc b1.size (Obj.cells #[Value.int IntKind.i64 s.1, Value.slice G s.2.length g] 29))
    have HV := Lib.hid (Lvar.new w1 #[Value.int IntKind.i64 s.1, Value.slice G s.2.length g] 29)
    have HR := Lib.hid (show contra (some s) = (isC s.2 && decide (s.1 < 0)) from rfl)
    clear r1 f1 b1 a2
    go_wp2_with fail
    refine (Calls.mono IC.out) ?_
    rintro e w2 ⟨rfl, b2⟩
    have V2 := Lib.hid (HV.out.below b2)
    have B2 := Lib.hid (HB.out.trans (b2.mono HB.out.size))
    have v0 := V2.out.cell 0 (.int .i64 s.1) rfl
    clear b2
    generalize isC s.2 = t at *
    cases t with
    | false =>
      have HF := Lib.hid (show contra (some s) = false from HR.out)
      go_wp2
      go_ret
      exact ⟨by rw [HF.out]; try rfl, B2.out⟩
    | true =>
      by_cases hs : s.1 < 0
      · have HF := Lib.hid (show contra (some s) = true by rw [HR.out, decide_eq_true hs]; rfl)
        have hs' : decide (s.1 < 0) = true := decide_eq_true hs
        clear hs
        go_wp2
        go_ret
        exact ⟨by rw [HF.out]; try simp, B2.out⟩
      · have HF := Lib.hid (show contra (some s) = false by rw [HR.out, decide_eq_false hs]; rfl)
        have hs' : decide (s.1 < 0) = false := decide_eq_false hs
        clear hs
        go_wp2
        go_ret
        exact ⟨by rw [HF.out]; try simp, B2.out⟩

set_option maxHeartbeats 1000000 in
set_option maxRecDepth 100000 in
theorem checkFarkas (lo hi lo' hi' : Nat) (N : Int) (A M T : Option Addr) (c d e0 : Nat) (xs : List (Int × List Int)) (ms : List Int) (tz : Int) (ts : List Int) (sc : Int) (w : World) (hA : SysK.Arg w A xs.length c xs) (hl : linsSize xs ≤ 1000000000) (hM : Row lo hi w M (IntK.iv ms)) (hlm : ms.length ≤ 1000000000) (hT : Row lo' hi' w T (IntK.iv ts)) (hlt : ts.length ≤ 1000000000) :
    Calls Try.prog 42 #[.agg #[.int .i64 N, .slice A xs.length c], .agg #[.int .i64 tz, .slice T ts.length e0], .agg #[.int .i64 sc, .slice M ms.length d]] w fun e w' => e = .returned (.bool (checkF N xs (tz, ts) sc ms)) ∧ Below w.heap.size w w' := by
  have hmf : ∀ (fn : Fn) (first cap : Array Value) (w : World), (Instr.makeFunc fn first cap).run Try.prog w = .ok (.func fn first cap) w := fun _ _ _ _ => rfl
  have bb : Below w.heap.size w (((w.alloc (Obj.cells #[Value.int IntKind.i64 N, Value.slice A xs.length c] 26)).alloc (Obj.cells #[Value.int IntKind.i64 tz, Value.slice T ts.length e0] 29)).alloc (Obj.cells #[Value.int IntKind.i64 sc, Value.slice M ms.length d] 33)) := (((Below.refl _ _).alloc (Nat.le_refl _) _).alloc (by simp) _).alloc (by simp; omega) _
  have BB := Lib.hid bb
  have CO := Lib.hid (contraRef (.agg #[.int .i64 N, .slice A xs.length c, .slice M ms.length d, .int .i64 tz, .slice T ts.length e0, .int .i64 sc]) (refS N xs (tz, ts) sc ms) _ (by have := refS_small N xs (tz, ts) sc ms; omega) (fun W hW => refC lo hi lo' hi' N A M T c d e0 xs ms tz ts sc W ((hA.below bb).below hW) hl ((hM.below bb).below hW) hlm ((hT.below bb).below hW) hlt))
  rw [contra_check] at CO
  generalize checkF N xs (tz, ts) sc ms = R at *
  clear bb hA hM hT hl
  go_enter Try.func42, Try.ntmps42
  go_wp2_with fail
  refine (Calls.mono CO.out) ?_
  rintro e w1 ⟨rfl, b1⟩
  have B1 := Lib.hid (BB.out.trans (b1.mono BB.out.size))
  clear b1
  go_wp2
  go_ret
  exact ⟨rfl, B1.out⟩
end FarkI
end Go.Proofs.Ytmkelfjnjnjgbaa
