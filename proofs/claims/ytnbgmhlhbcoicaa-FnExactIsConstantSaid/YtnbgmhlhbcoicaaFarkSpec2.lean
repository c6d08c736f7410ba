import Derived.Test.YtnbgmhlhbcoicaaFarkSpec
import Derived.IntWalk
/-
  The model's certificates: the checks, comparison.
-/
namespace Go.Proofs.Ytnbgmhlhbcoicaa
open Go.RowKit
namespace FarkS
open RowK Mem LinM FarkM LinI

theorem inScale (sc : Int) (w : World) :
    Calls Try.prog 52 #[.int .i64 sc, .int .i64 0, .int .i64 1000000000] w fun e w' => e = .returned (.bool (scB sc)) ∧ w = w' := by
  unfold scB
  exact ArithS.inR sc 0 1000000000 w

set_option maxHeartbeats 1000000 in
set_option maxRecDepth 100000 in
theorem equal (lo hi lo' hi' : Nat) (z u : Int) (A B : Option Addr) (c d : Nat) (zs us : List Int) (w : World) (hA : Row lo hi w A (IntK.iv zs)) (hB : Row lo' hi' w B (IntK.iv us)) (hl : zs.length ≤ 1000000000) (hl2 : us.length ≤ 1000000000) :
    Calls Try.prog 42 #[.agg #[.int .i64 z, .slice A zs.length c], .agg #[.int .i64 u, .slice B us.length d]] w fun e w' => e = .returned (.bool (eqB z u zs us)) ∧ Below w.heap.size w w' := by
  have bb : Below w.heap.size w ((w.alloc (Obj.cells #[Value.int IntKind.i64 z, Value.slice A zs.length c] 31)).alloc (Obj.cells #[Value.int IntKind.i64 u, Value.slice B us.length d] 31)) := ((Below.refl _ _).alloc (Nat.le_refl _) _).alloc (by simp) _
  have BB := Lib.hid bb
  have IN := Lib.hid (fun W (h : Below w.heap.size w W) => LinS.ints lo hi lo' hi' A B c d zs us W (hA.below h) (hB.below h) hl hl2)
  clear bb
  unfold eqB
  by_cases h1 : z = u
  · subst h1
    generalize decide (zs = us) = R at *
    go_enter Try.func42, Try.ntmps42
    go_wp2_with fail
    refine (IN.out _ BB.out).mono ?_
    rintro e w1 ⟨rfl, b1⟩
    go_wp2
    go_ret
    exact ⟨by simp, BB.out.trans (b1.mono BB.out.size)⟩
  · have hne : (z == u) = false := by simpa using h1
    rw [decide_eq_false h1, Bool.false_and]
    clear h1
    go_enter Try.func42, Try.ntmps42
    go_wp2
    go_ret
    exact ⟨rfl, BB.out⟩

set_option maxHeartbeats 1000000 in
set_option maxRecDepth 100000 in
theorem checkEmpty (lo hi : Nat) (N : Int) (A M : Option Addr) (c d : Nat) (xs : List (Int × List Int)) (ms : List Int) (w : World) (hA : SysK.Arg w A xs.length c xs) (hl : linsSize xs ≤ 1000000000) (hM : Row lo hi w M (IntK.iv ms)) (hlm : ms.length ≤ 1000000000) :
    Calls Try.prog 26 #[.agg #[.int .i64 N, .slice A xs.length c], .slice M ms.length d] w fun e w' => e = .returned (.bool (checkE N xs ms)) ∧ Below w.heap.size w w' := by
  have bb : Below w.heap.size w (w.alloc (Obj.cells #[Value.int IntKind.i64 N, Value.slice A xs.length c] 26)) := (Below.refl _ _).alloc (Nat.le_refl _) _
  have BB := Lib.hid bb
  have CB := Lib.hid (combine lo hi N A M c d xs ms _ (hA.below bb) hl (hM.below bb) hlm)
  have h8 := Lib.hid (combR_small N xs ms)
  rw [← contra_empty]
  generalize combR N xs ms = r at *
  clear bb hA hM hl
  cases r with
  | none =>
    go_enter Try.func26, Try.ntmps26
    go_wp2_with fail
    refine (Calls.mono CB.out) ?_
    rintro e w1 ⟨G, g, e1, r1, f1, b1⟩
    have e1 := (show e = .returned (.tuple #[.agg #[.int .i64 0, .slice G 0 g], .bool false]) from e1)
    subst e1
    have B1 := BB.out.trans (b1.mono BB.out.size)
    have HB := Lib.hid (B1.alloc B1.size (Obj.cells #[Value.int IntKind.i64 0, Value.slice G 0 g] 29))
    clear r1 f1 b1 B1
    go_wp2
    go_ret
    exact ⟨rfl, HB.out⟩
  | some s =>
    go_enter Try.func26, Try.ntmps26
    go_wp2_with fail
    refine (Calls.mono CB.out) ?_
    rintro e w1 ⟨G, g, e1, r1, f1, b1⟩
    have e1 := (show e = .returned (.tuple #[.agg #[.int .i64 s.1, .slice G s.2.length g], .bool true]) from e1)
    subst e1
    have r1 := (show Row _ w1.heap.size w1 G (IntK.iv s.2) from r1)
    have a2 : Below w1.heap.size w1 (w1.alloc (Obj.cells #[Value.int IntKind.i64 s.1, Value.slice G s.2.length g] 29)) := (Below.refl _ _).alloc (Nat.le_refl _) _
    have h8' : s.2.length ≤ 8 := h8.out
    have IC := Lib.hid (isConst _ _ s.1 G g s.2 _ (r1.below a2) (by omega))
    have B1 := BB.out.trans (b1.mono BB.out.size)
    have HB := Lib.hid (B1.alloc B1.size (Obj.cells #[Value.int IntKind.i64 s.1, Value.slice G s.2.length g] 29))
    have HV := Lib.hid (Lvar.new w1 #[Value.int IntKind.i64 s.1, Value.slice G s.2.length g] 29)
    have HR := Lib.hid (show contra (some s) = (isC s.2 && decide (s.1 < 0)) from rfl)
    clear r1 f1 b1 a2 B1
    go_wp2_with fail
    refine (Calls.mono IC.out) ?_
    rintro e w2 ⟨rfl, b2⟩
    have V2 := Lib.hid (HV.out.below b2)
    have B2 := Lib.hid (HB.out.trans (b2.mono HB.out.size))
    have v0 := V2.out.cell 0 (.int .i64 s.1) rfl
    clear b2
    generalize isC s.2 = t at *
    cases t with
    | false =>
      have HF := Lib.hid (show contra (some s) = false from HR.out)
      go_wp2
      go_ret
      exact ⟨by rw [HF.out]; try rfl, B2.out⟩
    | true =>
      by_cases hs : s.1 < 0
      · have HF := Lib.hid (show contra (some s) = true by rw [HR.out, decide_eq_true hs]; rfl)
        have hs' : decide (s.1 < 0) = true := decide_eq_true hs
        clear hs
        go_wp2
        go_ret
        exact ⟨by rw [HF.out]; try simp [hs'], B2.out⟩
      · have HF := Lib.hid (show contra (some s) = false by rw [HR.out, decide_eq_false hs]; rfl)
        have hs' : decide (s.1 < 0) = false := decide_eq_false hs
        clear hs
        go_wp2
        go_ret
        exact ⟨by rw [HF.out]; try simp [hs'], B2.out⟩

set_option maxHeartbeats 4000000 in
set_option maxRecDepth 100000 in
theorem checkFarkas (lo hi lo' hi' : Nat) (N : Int) (A M T : Option Addr) (c d e0 : Nat) (xs : List (Int × List Int)) (ms : List Int) (tz : Int) (ts : List Int) (sc : Int) (w : World) (hA : SysK.Arg w A xs.length c xs) (hl : linsSize xs ≤ 1000000000) (hM : Row lo hi w M (IntK.iv ms)) (hlm : ms.length ≤ 1000000000) (hT : Row lo' hi' w T (IntK.iv ts)) (hlt : ts.length ≤ 1000000000) :
    Calls Try.prog 13 #[.agg #[.int .i64 N, .slice A xs.length c], .agg #[.int .i64 tz, .slice T ts.length e0], .agg #[.int .i64 sc, .slice M ms.length d]] w fun e w' => e = .returned (.bool (checkF N xs (tz, ts) sc ms)) ∧ Below w.heap.size w w' := by
  have bb : Below w.heap.size w (((w.alloc (Obj.cells #[Value.int IntKind.i64 N, Value.slice A xs.length c] 26)).alloc (Obj.cells #[Value.int IntKind.i64 tz, Value.slice T ts.length e0] 29)).alloc (Obj.cells #[Value.int IntKind.i64 sc, Value.slice M ms.length d] 31)) := (((Below.refl _ _).alloc (Nat.le_refl _) _).alloc (by simp) _).alloc (by simp; omega) _
  have L1 := Lib.hid (((Lvar.new w #[Value.int IntKind.i64 N, Value.slice A xs.length c] 26).alloc (Obj.cells #[Value.int IntKind.i64 tz, Value.slice T ts.length e0] 29)).alloc (Obj.cells #[Value.int IntKind.i64 sc, Value.slice M ms.length d] 31))
  have l2 := (Lvar.new (w.alloc (Obj.cells #[Value.int IntKind.i64 N, Value.slice A xs.length c] 26)) #[Value.int IntKind.i64 tz, Value.slice T ts.length e0] 29).alloc (Obj.cells #[Value.int IntKind.i64 sc, Value.slice M ms.length d] 31)
  have l3 := Lvar.new ((w.alloc (Obj.cells #[Value.int IntKind.i64 N, Value.slice A xs.length c] 26)).alloc (Obj.cells #[Value.int IntKind.i64 tz, Value.slice T ts.length e0] 29)) #[Value.int IntKind.i64 sc, Value.slice M ms.length d] 31
  simp only [World.size_alloc] at l2 l3
  have L2 := Lib.hid l2
  have L3 := Lib.hid l3
  have BB := Lib.hid bb
  have CB := Lib.hid (combine lo hi N A M c d xs ms _ (hA.below bb) hl (hM.below bb) hlm)
  have CO := Lib.hid (fun W => LinS.const 1 N W)
  have IN := Lib.hid (fun W => inScale sc W)
  have hc8 := Lib.hid (constL_small 1 N)
  have hr8 := Lib.hid (combR_small N xs ms)
  have HT := Lib.hid (fun W (h : Below w.heap.size w W) => hT.below h)
  have HR := Lib.hid (show checkF N xs (tz, ts) sc ms = ((combR N xs ms).isSome && (vldB tz ts N && (scB sc && checkB N (tz, ts) sc ((combR N xs ms).getD (0, []))))) from rfl)
  have HCB := Lib.hid (fun s => (show checkB N (tz, ts) sc s = ((addS tz ts 1 (constL 1 N).1 (constL 1 N).2).isSome && contra (addS s.1 s.2 (0 - sc) ((addS tz ts 1 (constL 1 N).1 (constL 1 N).2).getD (0, [])).1 ((addS tz ts 1 (constL 1 N).1 (constL 1 N).2).getD (0, [])).2)) from rfl))
  generalize checkF N xs (tz, ts) sc ms = R at *
  generalize combR N xs ms = r at *
  generalize constL 1 N = s0 at *
  clear bb hA hM hT hl l2 l3
  cases r with
  | none =>
    have HF := Lib.hid (show R = false from HR.out)
    go_enter Try.func13, Try.ntmps13
    go_wp2_with fail
    refine (Calls.mono CB.out) ?_
    rintro e w1 ⟨G, g, e1, r1, f1, b1⟩
    have e1 := (show e = .returned (.tuple #[.agg #[.int .i64 0, .slice G 0 g], .bool false]) from e1)
    subst e1
    have B1 := BB.out.trans (b1.mono BB.out.size)
    have HB := Lib.hid (B1.alloc B1.size (Obj.cells #[Value.int IntKind.i64 0, Value.slice G 0 g] 29))
    clear r1 f1 b1 B1
    go_wp2
    go_ret
    exact ⟨by rw [HF.out]; try rfl, HB.out⟩
  | some s =>
    have h8 : s.2.length ≤ 8 := hr8.out
    have HR2 := Lib.hid (show R = (vldB tz ts N && (scB sc && checkB N (tz, ts) sc s)) from HR.out)
    have HCB2 := Lib.hid (HCB.out s)
    generalize checkB N (tz, ts) sc s = ck at *
    clear HR HCB
    go_enter Try.func13, Try.ntmps13
    go_wp2_with fail
    refine (Calls.mono CB.out) ?_
    rintro e w1 ⟨G, g, e1, r1, f1, b1⟩
    have e1 := (show e = .returned (.tuple #[.agg #[.int .i64 s.1, .slice G s.2.length g], .bool true]) from e1)
    subst e1
    have r1 := (show Row _ w1.heap.size w1 G (IntK.iv s.2) from r1)
    have a2 : Below w1.heap.size w1 (w1.alloc (Obj.cells #[Value.int IntKind.i64 s.1, Value.slice G s.2.length g] 29)) := (Below.refl _ _).alloc (Nat.le_refl _) _
    have M1 := L1.out.below b1
    have M2 := L2.out.below b1
    have M3 := L3.out.below b1
    have B1 := BB.out.trans (b1.mono BB.out.size)
    have hs1 := b1.size
    simp only [World.size_alloc] at hs1 r1
    have V2 := Lib.hid (M1.below a2)
    have T2 := Lib.hid (M2.below a2)
    have F2 := Lib.hid (M3.below a2)
    have U2 := Lib.hid (Lvar.new w1 #[Value.int IntKind.i64 s.1, Value.slice G s.2.length g] 29)
    have R2 := Lib.hid (r1.below a2)
    have B2 := Lib.hid (B1.trans (a2.mono B1.size))
    have hu : w1.heap.size < (w1.alloc (Obj.cells #[Value.int IntKind.i64 s.1, Value.slice G s.2.length g] 29)).heap.size := by simp
    have HU := Lib.hid hu
    clear r1 f1 b1 a2 M1 M2 M3 B1 hu L1 L2 L3 BB CB
    go_upto_region 2 with fail
    generalize w1.alloc (Obj.cells #[Value.int IntKind.i64 s.1, Value.slice G s.2.length g] 29) = W2 at *
    have VA := Lib.hid (LinS.valid lo' hi' tz T e0 ts N W2 (HT.out _ B2.out) hlt)
    have t0 := T2.out.cell 0 (.int .i64 tz) rfl
    have t1 := T2.out.cell 1 (.slice T ts.length e0) rfl
    have n0 := V2.out.cell 0 (.int .i64 N) rfl
    generalize vldB tz ts N = v at *
    cases v with
    | false =>
      have HF := Lib.hid (show R = false from HR2.out)
      go_wp2_with fail
      refine (Calls.mono VA.out) ?_
      rintro e w3 ⟨rfl, b3⟩
      have HB := Lib.hid (B2.out.trans (b3.mono B2.out.size))
      go_wp2
      go_ret
      exact ⟨by rw [HF.out]; try rfl, HB.out⟩
    | true =>
      go_wp2_with fail
      refine (Calls.mono VA.out) ?_
      rintro e w3 ⟨rfl, b3⟩
      have B3 := Lib.hid (B2.out.trans (b3.mono B2.out.size))
      have V3 := Lib.hid (V2.out.below b3)
      have T3 := Lib.hid (T2.out.below b3)
      have F3 := Lib.hid (F2.out.below b3)
      have U3 := Lib.hid (U2.out.below b3)
      have R3 := Lib.hid (R2.out.below b3)
      have hs3 := b3.size
      clear b3 t0 t1 n0 V2 T2 F2 U2 R2 B2 VA
      have f0 := F3.out.cell 0 (.int .i64 sc) rfl
      cases hsc : scB sc with
      | false =>
        have HF := Lib.hid (show R = false by rw [HR2.out, hsc]; rfl)
        rw [hsc] at IN
        go_wp2_with fail
        refine (Calls.mono (IN.out _)) ?_
        rintro e w4 ⟨rfl, rfl⟩
        go_wp2
        go_ret
        exact ⟨by rw [HF.out]; try rfl, B3.out⟩
      | true =>
        have hsc' : 0 ≤ sc ∧ sc ≤ 1000000000 := by unfold scB at hsc; simpa using hsc
        have hneg : IntKind.i64.wrap (-sc) = -sc := IntWalk.i64_in _ (by omega)
        have HNEG := Lib.hid hneg
        have HRC := Lib.hid (show R = ck by rw [HR2.out, hsc]; rfl)
        rw [hsc] at IN
        clear hsc hsc' hneg HR2
        go_wp2_with fail
        refine (Calls.mono (IN.out _)) ?_
        rintro e w4 ⟨rfl, rfl⟩
        clear IN f0
        go_upto_region 4 with fail
        have AS := Lib.hid (fun C c2 lo2 hi2 W (h1 : Below w3.heap.size w3 W) (h2 : Row lo2 hi2 W C (IntK.iv s0.2)) => LinS.addScaled lo' hi' lo2 hi2 tz 1 s0.1 T C e0 c2 ts s0.2 W (HT.out W (B3.out.trans (h1.mono B3.out.size))) h2 hlt (by have := hc8.out; omega))
        have HRS := Lib.hid (LinI.addS_len tz ts 1 s0.1 s0.2)
        generalize addS tz ts 1 s0.1 s0.2 = ra at *
        have KS := Lib.hid (fun W (h : Below w3.heap.size w3 W) => (show W.cell? ⟨w.heap.size + 1, 0, none⟩ = some (Value.int .i64 tz) ∧ W.cell? ⟨w.heap.size + 1, 1, none⟩ = some (Value.slice T ts.length e0) ∧ W.cell? ⟨w.heap.size, 0, none⟩ = some (Value.int .i64 N) from ⟨(T3.out.below h).cell 0 _ rfl, (T3.out.below h).cell 1 _ rfl, (V3.out.below h).cell 0 _ rfl⟩))
        obtain ⟨k3, k4, k0⟩ := KS.out w3 (Below.refl _ _)
        have lv3 := V3.out.lt
        have lt3 := T3.out.lt
        go_cut [9, 10] (fun s9 s10 wx => LinK.AfterO w3 (ra.getD (0, [])) ra.isSome s9 s10 wx)
        case first =>
          go_region_held3 (fun w' => w'.cell? ⟨w.heap.size + 1, 0, none⟩ = some (Value.int .i64 tz) ∧ w'.cell? ⟨w.heap.size + 1, 1, none⟩ = some (Value.slice T ts.length e0) ∧ w'.cell? ⟨w.heap.size, 0, none⟩ = some (Value.int .i64 N))
            (first | exact KS.out _ hd5 | exact KS.out _ hd4 | exact KS.out _ (Below.refl _ _).drew | exact KS.out _ (hd5.alloc hd5.size _) | exact KS.out _ (hd4.alloc hd4.size _) | exact KS.out _ ((Below.refl _ _).alloc (Nat.le_refl _) _).drew | exact KS.out _ ((hd5.setCell (by first | (simp; done) | (exact hd4.size)) _).setCell (by first | (simp; done) | (exact hd4.size)) _))
            (first
              | (go_at_call 54; refine (Calls.mono (CO.out _)) ?_; rintro e u4 ⟨C2, g2, rfl, rc2, fc2, b4⟩; (have hd4 : Below w3.heap.size w3 u4 := by first | exact ((Below.refl w3.heap.size w3).drew).trans (b4.mono ((Below.refl w3.heap.size w3).drew).size) | exact (((Below.refl w3.heap.size w3).alloc (Nat.le_refl _) _).drew).trans (b4.mono (((Below.refl w3.heap.size w3).alloc (Nat.le_refl _) _).drew).size)); (try (have v4 : Lvar u4 w3.heap.size #[Value.int .i64 0, Value.slice none 0 0] := ((Lvar.new w3 _ _).below (Below.refl _ _).drew).below b4)))
              | (go_at_call 53; refine (Calls.mono (AS.out C2 g2 _ _ _ (by first | exact hd4 | exact hd4.alloc hd4.size _) (rc2.below (by first | exact Below.refl _ _ | exact (Below.refl _ _).alloc (Nat.le_refl _) _)))) ?_; rintro e u5 ⟨Aw, cw, rfl, rw5, fw5, b5⟩; (have hs5 : Below u4.heap.size u4 u5 := by first | exact b5 | exact ((Below.refl _ _).alloc (Nat.le_refl _) _).trans (b5.mono (by simp))); (have hd5 := hd4.trans (hs5.mono hd4.size)); (try (have v5 := v4.below hs5)); (try (have v5 : Lvar u5 u4.heap.size #[Value.int .i64 0, Value.slice none 0 0] := (Lvar.new u4 _ _).below b5)); (try (have z0 := v5.cell 0 (Value.int .i64 0) rfl)); (try (have z1 := v5.cell 1 (Value.slice none 0 0) rfl)); (try (have y0 := v5.frozen 0)); (try (have y1 := v5.frozen 1))))
          all_goals (go_wp2_with fail)
          all_goals go_meet
          all_goals first | exact LinK.afterO_new hd5 rw5 fw5 (by first | exact hd4.size | (have := hd4.size; simp; omega)) | exact LinK.afterO_old hd5 v5 rw5 fw5 (by first | exact hd4.size | exact Nat.le_refl _) (by first | exact v4.lt | (simp; done) | (simp; omega))
        case rest =>
          obtain ⟨bm, Am, cm, rfl, rfl, hbm, Vm, Om, d5⟩ := hcut
          have VM := Lib.hid Vm
          have OM := Lib.hid Om
          have U5 := Lib.hid (U3.out.below d5)
          have F5 := Lib.hid (F3.out.below d5)
          have R5 := Lib.hid (R3.out.below d5)
          have B5 := Lib.hid (B3.out.trans (d5.mono B3.out.size))
          have AF := Lib.hid (LinS.addScaled _ _ _ _ s.1 (-sc) (ra.getD (0, [])).1 G Am g cm s.2 (ra.getD (0, [])).2 wc R5.out OM.out.1 (by omega) (by have := HRS.out; omega))
          rw [show (0 : Int) - sc = -sc by omega] at HCB2
          have HB8 := Lib.hid (LinI.addS_len s.1 s.2 (-sc) (ra.getD (0, [])).1 (ra.getD (0, [])).2)
          generalize addS s.1 s.2 (-sc) (ra.getD (0, [])).1 (ra.getD (0, [])).2 = rb at *
          generalize ra.getD (0, []) = m at *
          generalize ra.isSome = t at *
          have u0 := U5.out.cell 0 (.int .i64 s.1) rfl
          have u1 := U5.out.cell 1 (.slice G s.2.length g) rfl
          have f0 := F5.out.cell 0 (.int .i64 sc) rfl
          have m0 := VM.out.cell 0 (.int .i64 m.1) rfl
          have m1 := VM.out.cell 1 (.slice Am m.2.length cm) rfl
          have hneg := HNEG.out
          clear Vm Om d5 KS AS CO k3 k4 k0 U3 F3 R3 B3 V3 T3
          go_wp2_with fail
          refine (Calls.mono AF.out) ?_
          rintro e w6 ⟨F, f, rfl, r6, f6, b6⟩
          have a7 : Below w6.heap.size w6 (w6.alloc (Obj.cells #[Value.int IntKind.i64 (rb.getD (0, [])).1, Value.slice F (rb.getD (0, [])).2.length f] 29)) := (Below.refl _ _).alloc (Nat.le_refl _) _
          have B6 := B5.out.trans (b6.mono B5.out.size)
          have B7 := Lib.hid (B6.trans (a7.mono B6.size))
          have O7 := Lib.hid (Lvar.new w6 #[Value.int IntKind.i64 (rb.getD (0, [])).1, Value.slice F (rb.getD (0, [])).2.length f] 29)
          have IC := Lib.hid (isConst _ _ (rb.getD (0, [])).1 F f (rb.getD (0, [])).2 _ (r6.below a7) (by have := HB8.out; omega))
          have HX := Lib.hid (show contra rb = (rb.isSome && (isC (rb.getD (0, [])).2 && decide ((rb.getD (0, [])).1 < 0))) from rfl)
          generalize contra rb = cr at *
          generalize rb.isSome = p at *
          generalize rb.getD (0, []) = n at *
          generalize isC n.2 = y at *
          clear r6 f6 b6 a7 B6 u0 u1 f0 m0 m1
          cases t with
          | false =>
            have HF := Lib.hid (show R = false from HRC.out.trans HCB2.out)
            go_wp2
            go_ret
            exact ⟨by rw [HF.out]; try rfl, B7.out⟩
          | true =>
            cases p with
            | false =>
              have HF := Lib.hid (show R = false from HRC.out.trans (HCB2.out.trans HX.out))
              go_wp2
              go_ret
              exact ⟨by rw [HF.out]; try rfl, B7.out⟩
            | true =>
              go_wp2_with fail
              refine (Calls.mono IC.out) ?_
              rintro e w8 ⟨rfl, b8⟩
              have V8 := Lib.hid (O7.out.below b8)
              have B8 := Lib.hid (B7.out.trans (b8.mono B7.out.size))
              have v0 := V8.out.cell 0 (.int .i64 n.1) rfl
              clear b8
              cases y with
              | false =>
                have HF := Lib.hid (show R = false from HRC.out.trans (HCB2.out.trans HX.out))
                go_wp2
                go_ret
                exact ⟨by rw [HF.out]; try rfl, B8.out⟩
              | true =>
                have HF := Lib.hid (show R = decide (n.1 < 0) from HRC.out.trans (HCB2.out.trans HX.out))
                by_cases hs : n.1 < 0
                · have hs' : decide (n.1 < 0) = true := decide_eq_true hs
                  clear hs
                  go_wp2
                  go_ret
                  exact ⟨by rw [HF.out]; try simp [hs'], B8.out⟩
                · have hs' : decide (n.1 < 0) = false := decide_eq_false hs
                  clear hs
                  go_wp2
                  go_ret
                  exact ⟨by rw [HF.out]; try simp [hs'], B8.out⟩
end FarkS
end Go.Proofs.Ytnbgmhlhbcoicaa
