import Derived.Test.YtmkelfjnjnjgbaaFarkMath2
import Derived.Test.YtmkelfjnjnjgbaaSysOwn
import Derived.Test.YtmkelfjnjnjgbaaLinSpec3
import Derived.Test.YtmkelfjnjnjgbaaLinK
import Derived.Deep.DeepCutAuto
import Derived.Deep.CutRange
import Derived.Deep.RegionHeld3
import Derived.IntWalk
/-
  The model's certificates: constants, the combination of rows.
-/
namespace Go.Proofs.Ytmkelfjnjnjgbaa
open Go.RowKit
namespace FarkS
open RowK Mem LinM FarkM LinI

theorem isC_no {zs : List Int} {k : Nat} (hk : k < zs.length) (h : zs[k] ≠ 0) : isC zs = false := by
  unfold isC
  rw [List.all_eq_false]
  exact ⟨zs[k], List.getElem_mem _, by simpa using h⟩
set_option maxHeartbeats 1000000 in
set_option maxRecDepth 100000 in
theorem isConst (lo hi : Nat) (z : Int) (A : Option Addr) (c : Nat) (zs : List Int) (w : World) (hA : Row lo hi w A (IntK.iv zs)) (hl : zs.length ≤ 1000000000) :
    Calls Try.prog 51 #[.agg #[.int .i64 z, .slice A zs.length c]] w fun e w' => e = .returned (.bool (isC zs)) ∧ Below w.heap.size w w' := by
  have b0 : Below w.heap.size w (w.alloc (Obj.cells #[Value.int IntKind.i64 z, Value.slice A zs.length c] 29)) := (Below.refl _ _).alloc (Nat.le_refl _) _
  have V0 := Lib.hid (Lvar.new w #[Value.int IntKind.i64 z, Value.slice A zs.length c] 29)
  have HA := Lib.hid (hA.below b0)
  have B0 := Lib.hid b0
  have HN := Lib.hid (fun k (hk : k < zs.length) h => isC_no (zs := zs) hk h)
  have HY := Lib.hid (fun (h : (zs.take zs.length).all (fun x => x == 0) = true) => (show isC zs = true by rw [List.take_length] at h; exact h))
  generalize isC zs = R at *
  clear b0 hA
  go_enter Try.func51, Try.ntmps51
  go_wp2
  generalize w.alloc (Obj.cells #[Value.int IntKind.i64 z, Value.slice A zs.length c] 29) = W at *
  have v1 := V0.out.cell 1 (.slice A zs.length c) rfl
  go_loop [3] (fun i => ∃ k : Nat, k ≤ zs.length ∧ i = .int .i64 k ∧ (zs.take k).all (fun x => x == 0) = true) (fun i => zs.length - (intOf i).toNat)
  case atStart => exact ⟨0, Nat.zero_le _, rfl, rfl⟩
  case round =>
    obtain ⟨k, hk, rfl, hall⟩ := hrel
    have HAL := Lib.hid hall
    clear hall
    by_cases hlt : k < zs.length
    · obtain ⟨b, o, rfl, hbl, hc⟩ := IntK.at_ HA.out hlt
      have HN' := Lib.hid (HN.out k hlt)
      have HT := Lib.hid (fun h => SysS.all_take (p := fun x => x == 0) hlt HAL.out h)
      have hi0 : (0 : Int) ≤ (k : Int) := by omega
      have hi1 : (k : Int) < (zs.length : Int) := by omega
      generalize zs[k] = x at *
      by_cases hx : x = 0
      · have HT' := Lib.hid (HT.out (by simpa using hx))
        have hx' : (x != 0) = false := by simpa using hx
        clear HT HN' hx
        go_wp2
        go_round
        case rel => exact ⟨k + 1, by omega, by go_num, HT'.out⟩
        case measure => simp [intOf]; omega
      · have HR := Lib.hid (HN'.out hx)
        have hx' : (x != 0) = true := by simpa using hx
        clear HT HN' hx
        go_wp2
        go_ret
        exact ⟨by rw [HR.out]; try rfl, B0.out⟩
    · obtain rfl : k = zs.length := by omega
      have HR := Lib.hid (HY.out HAL.out)
      clear HAL
      go_wp2
      go_ret
      exact ⟨by rw [HR.out]; try rfl, B0.out⟩

/-- The sum so far. -/
def SumRel (w w2 : World) (cs : Array Value) (s0 : Int × List Int) (xs : List (Int × List Int)) (ms : List Int) (i : Value) (wr : World) : Prop :=
  ∃ (k : Nat) (s : Int × List Int) (G : Option Addr) (g lo hi : Nat), k ≤ xs.length ∧ i = .int .i64 k ∧ comb s0 (ms.take k) (xs.take k) = some s ∧ s.2.length ≤ 8 ∧
    Lvar wr w2.heap.size #[.int .i64 s.1, .slice G s.2.length g] ∧ IntK.Own lo hi wr G s.2 ∧ (hi ≤ w2.heap.size ∨ w2.heap.size < lo) ∧ w.heap.size + 1 < lo ∧ hi ≤ wr.heap.size ∧
    Below w.heap.size w wr ∧ Lvar wr w.heap.size cs ∧ Lvar wr (w.heap.size + 1) #[.int .i64 0, .slice none 0 0]
theorem combR_valid {N : Int} {xs : List (Int × List Int)} {ms : List Int} (h : SysS.sysV N xs = true) (h2 : ms.length = xs.length) : combR N xs ms = comb (constL 0 N) ms xs := if_pos ⟨h, h2⟩
theorem combR_not {N : Int} {xs : List (Int × List Int)} {ms : List Int} (h : ¬ (SysS.sysV N xs = true ∧ ms.length = xs.length)) : combR N xs ms = none := if_neg h

set_option maxHeartbeats 4000000 in
set_option maxRecDepth 100000 in
theorem combine (lo hi : Nat) (N : Int) (A M : Option Addr) (c d : Nat) (xs : List (Int × List Int)) (ms : List Int) (w : World) (hA : SysK.Arg w A xs.length c xs) (hl : linsSize xs ≤ 1000000000) (hM : Row lo hi w M (IntK.iv ms)) (hlm : ms.length ≤ 1000000000) :
    Calls Try.prog 49 #[.agg #[.int .i64 N, .slice A xs.length c], .slice M ms.length d] w (GaveO w (combR N xs ms)) := by
  have hxl : xs.length ≤ 1000000000 := by unfold linsSize at hl; omega
  have bb : Below w.heap.size w ((w.alloc (Obj.cells #[Value.int IntKind.i64 N, Value.slice A xs.length c] 26)).alloc (Obj.cells #[Value.int IntKind.i64 0, Value.slice none 0 0] 29)) := ((Below.refl _ _).alloc (Nat.le_refl _) _).alloc (by simp) _
  have L1 := Lib.hid ((Lvar.new w #[Value.int IntKind.i64 N, Value.slice A xs.length c] 26).alloc (Obj.cells #[Value.int IntKind.i64 0, Value.slice none 0 0] 29))
  have l2 := Lvar.new (w.alloc (Obj.cells #[Value.int IntKind.i64 N, Value.slice A xs.length c] 26)) #[Value.int IntKind.i64 0, Value.slice none 0 0] 29
  simp only [World.size_alloc] at l2
  have L2 := Lib.hid l2
  have BB := Lib.hid bb
  have VA := Lib.hid (SysK.valid N A c xs _ (hA.below bb) hl)
  have v0 := L1.out.cell 0 (.int .i64 N) rfl
  have v1 := L1.out.cell 1 (.slice A xs.length c) rfl
  obtain ⟨q, fp, hA⟩ := hA
  have HA := Lib.hid hA
  have HM := Lib.hid hM
  have HSZ := Lib.hid (fun x (h : x ∈ xs) => linsSize_mem h)
  have HL := Lib.hid hl
  have HYES := Lib.hid (fun h h2 => combR_valid (N := N) (xs := xs) (ms := ms) h h2)
  have HNO := Lib.hid (fun h => combR_not (N := N) (xs := xs) (ms := ms) h)
  generalize combR N xs ms = R at *
  clear bb hA hM hl l2
  cases hv : SysS.sysV N xs with
  | false =>
    have HR := Lib.hid (HNO.out (by rw [hv]; simp))
    rw [hv] at VA
    clear hv HYES HNO
    go_enter Try.func49, Try.ntmps49
    go_wp2_with fail
    refine (Calls.mono VA.out) ?_
    rintro e w1 ⟨rfl, b1⟩
    have M2 := Lib.hid (L2.out.below b1)
    have B1 := Lib.hid (BB.out.trans (b1.mono BB.out.size))
    clear b1 L1 L2 BB VA v0 v1
    have q0 := M2.out.cell 0 (.int .i64 0) rfl
    have q1 := M2.out.cell 1 (.slice none 0 0) rfl
    have p0 := M2.out.frozen 0
    have p1 := M2.out.frozen 1
    have HB := Lib.hid ((B1.out.setCell (p := ⟨w.heap.size + 1, 0, none⟩) (by simp) (.int .i64 0)).setCell (p := ⟨w.heap.size + 1, 1, none⟩) (by simp) (.slice none 0 0))
    go_wp2
    refine bodyPost_ret (v := .tuple #[.agg #[.int .i64 0, .slice none 0 0], .bool false]) (by simp [results, Try.results49, go_sem, q0, q1]) rfl ?_
    rw [HR.out]
    exact gaveO_none HB.out
  | true =>
    rw [hv] at VA
    by_cases hlen : ms.length = xs.length
    · have hR := HYES.out hv hlen
      have HR := Lib.hid hR
      have HLEN := Lib.hid hlen
      have hne : ((ms.length : Int) != (xs.length : Int)) = false := by simp [hlen]
      have CO := Lib.hid (fun W => LinS.const 0 N W)
      have hs0 := constL_small 0 N
      generalize constL 0 N = s0 at *
      have HS0 := Lib.hid hs0
      clear hv HYES HNO hR hlen hs0
      go_enter Try.func49, Try.ntmps49
      go_wp2_with fail
      refine (Calls.mono VA.out) ?_
      rintro e w1 ⟨rfl, b1⟩
      have M1 := Lib.hid (L1.out.below b1)
      have M2 := Lib.hid (L2.out.below b1)
      have B1 := Lib.hid (BB.out.trans (b1.mono BB.out.size))
      have hs1 := b1.size
      simp only [World.size_alloc] at hs1
      clear b1 L1 L2 BB VA v0 v1
      have v0 := M1.out.cell 0 (.int .i64 N) rfl
      have v1 := M1.out.cell 1 (.slice A xs.length c) rfl
      go_wp2_with fail
      refine (Calls.mono (CO.out _)) ?_
      rintro e w2 ⟨A2, c2, rfl, r2, f2, b2⟩
      have N1 := Lib.hid (M1.out.below b2)
      have N2 := Lib.hid (M2.out.below b2)
      have B2 := Lib.hid (B1.out.trans (b2.mono B1.out.size))
      have hs2 := b2.size
      have O2 := Lib.hid (show IntK.Own w1.heap.size w2.heap.size w2 A2 s0.2 from ⟨r2, f2⟩)
      clear b2 M1 M2 B1 v0 v1 r2 f2 CO
      have a3 : Below w2.heap.size w2 (w2.alloc (Obj.cells #[Value.int IntKind.i64 s0.1, Value.slice A2 s0.2.length c2] 29)) := (Below.refl _ _).alloc (Nat.le_refl _) _
      have START := Lib.hid (show SumRel w w2 #[Value.int IntKind.i64 N, Value.slice A xs.length c] s0 xs ms (.int .i64 0) (w2.alloc (Obj.cells #[Value.int IntKind.i64 s0.1, Value.slice A2 s0.2.length c2] 29)) from
        ⟨0, s0, A2, c2, w1.heap.size, w2.heap.size, Nat.zero_le _, rfl, by rw [List.take_zero, comb_nil], HS0.out, Lvar.new _ _ _, O2.out.below a3, Or.inl (Nat.le_refl _), by omega, by simp, B2.out.trans (a3.mono B2.out.size), N1.out.below a3, N2.out.below a3⟩)
      clear N1 N2 O2 a3
      go_wp2
      go_loopw [7] (fun i wr => SumRel w w2 #[Value.int IntKind.i64 N, Value.slice A xs.length c] s0 xs ms i wr) (fun i _ => xs.length - (intOf i).toNat)
      case atStart => exact START.out
      case round =>
        obtain ⟨k, s, G, g, lo1, hi1, hk, rfl, hcb, hs8, hV, hO, hd1, hd2, hd3, hb, hW, hZ⟩ := hrel
        have KB := Lib.hid hcb
        have KV := Lib.hid hV
        have KO := Lib.hid hO
        have KB0 := Lib.hid hb
        have KW := Lib.hid hW
        have KZ := Lib.hid hZ
        clear hcb hV hO hb hW hZ START
        by_cases hlt : k < xs.length
        · have hlt2 : k < ms.length := by rw [HLEN.out]; exact hlt
          obtain ⟨b, o, B, d1, lo2, hi2, rfl, hbb, x0, x1, _, rx⟩ := lins_at (Rep.below HA.out KB0.out) hlt
          obtain ⟨bM, oM, rfl, hbM, xm⟩ := IntK.at_ (HM.out.below KB0.out) hlt2
          have hx := HSZ.out _ (List.getElem_mem hlt)
          have hs9 : xs[k].2.length ≤ 1000000000 := by have := HL.out; omega
          have HN := Lib.hid (fun h => comb_stop (s := s) hlt2 hlt KB.out h)
          have HY := Lib.hid (fun s' hm h => comb_step (s := s) (s' := s') hlt2 hlt KB.out hm h)
          clear hx
          generalize xs[k] = x at *
          generalize ms[k] = m at *
          obtain ⟨z, zs⟩ := x
          simp only at x0 x1 rx hs9 HN HY
          have HR8 := Lib.hid (fun s' (h : addS s.1 s.2 m z zs = some s') => addS_small (x := (z, zs)) h)
          have AS := Lib.hid (fun W (h : Below wr.heap.size wr W) => LinS.addScaled lo1 hi1 lo2 hi2 s.1 m z G B g d1 s.2 zs W (KO.out.1.below h) (rx.below h) (by omega) hs9)
          generalize addS s.1 s.2 m z zs = r at *
          have hi0 : (0 : Int) ≤ (k : Int) := by omega
          have hi1' : (k : Int) < (xs.length : Int) := by omega
          have hi2' : (k : Int) < (ms.length : Int) := by omega
          have kvl := KV.out.lt
          have kwl := KW.out.lt
          have lM := World.block_lt_of_cell? _ _ xm
          have KS := Lib.hid (fun W (h : Below wr.heap.size wr W) => (show W.cell? ⟨w2.heap.size, 0, none⟩ = some (Value.int .i64 s.1) ∧ W.cell? ⟨w2.heap.size, 1, none⟩ = some (Value.slice G s.2.length g) ∧ W.cell? ⟨w.heap.size, 1, none⟩ = some (Value.slice (some ⟨b, o, none⟩) xs.length c) ∧ W.cell? ⟨bM, oM + k, none⟩ = some (Value.int .i64 m) ∧ W.cell? ⟨b, o + k * 2, none⟩ = some (Value.int .i64 z) ∧ W.cell? ⟨b, o + k * 2 + 1, none⟩ = some (Value.slice B zs.length d1) from
            ⟨(KV.out.below h).cell 0 _ rfl, (KV.out.below h).cell 1 _ rfl, (KW.out.below h).cell 1 _ rfl, (h.cell (p := ⟨bM, oM + k, none⟩) lM).trans xm, (h.cell (p := ⟨b, o + k * 2, none⟩) hbb).trans x0, (h.cell (p := ⟨b, o + k * 2 + 1, none⟩) hbb).trans x1⟩))
          clear x0 x1 rx
          obtain ⟨k0, k1, k2, k3, k4, k5⟩ := KS.out wr (Below.refl _ _)
          clear xm
          go_upto_region 7 with fail
          go_cut [8, 9] from 25 to 55 (fun s8 s9 wx => LinK.AfterO wr (r.getD (0, [])) r.isSome s8 s9 wx)
          case first =>
            go_region_held3 (fun w' => w'.cell? ⟨w2.heap.size, 0, none⟩ = some (Value.int .i64 s.1) ∧ w'.cell? ⟨w2.heap.size, 1, none⟩ = some (Value.slice G s.2.length g) ∧ w'.cell? ⟨w.heap.size, 1, none⟩ = some (Value.slice (some ⟨b, o, none⟩) xs.length c) ∧ w'.cell? ⟨bM, oM + k, none⟩ = some (Value.int .i64 m) ∧ w'.cell? ⟨b, o + k * 2, none⟩ = some (Value.int .i64 z) ∧ w'.cell? ⟨b, o + k * 2 + 1, none⟩ = some (Value.slice B zs.length d1))
              (first | exact KS.out _ hd5 | exact KS.out _ (Below.refl _ _).drew | exact KS.out _ (hd5.alloc hd5.size _) | exact KS.out _ ((Below.refl _ _).alloc (Nat.le_refl _) _).drew | exact KS.out _ ((hd5.setCell (by first | exact Nat.le_refl _ | exact hd5.size) _).setCell (by first | exact Nat.le_refl _ | exact hd5.size) _))
              (first
                | (go_at_call 45; refine (Calls.mono (AS.out _ (by first | exact ((Below.refl wr.heap.size wr).drew) | exact (((Below.refl wr.heap.size wr).alloc (Nat.le_refl _) _).drew)))) ?_; rintro e u5 ⟨Aw, cw, rfl, rw5, fw5, b5⟩; (have hd5 : Below wr.heap.size wr u5 := by first | exact ((Below.refl wr.heap.size wr).drew).trans (b5.mono ((Below.refl wr.heap.size wr).drew).size) | exact (((Below.refl wr.heap.size wr).alloc (Nat.le_refl _) _).drew).trans (b5.mono (((Below.refl wr.heap.size wr).alloc (Nat.le_refl _) _).drew).size)); (try (have v5 : Lvar u5 wr.heap.size #[Value.int .i64 0, Value.slice none 0 0] := ((Lvar.new wr _ _).below (Below.refl _ _).drew).below b5)); (try (have z0 := v5.cell 0 (Value.int .i64 0) rfl)); (try (have z1 := v5.cell 1 (Value.slice none 0 0) rfl)); (try (have y0 := v5.frozen 0)); (try (have y1 := v5.frozen 1))))
            all_goals (go_wp2_with fail)
            all_goals go_meet
            all_goals first | exact LinK.afterO_new hd5 rw5 fw5 (by first | exact Nat.le_refl _ | (simp; done)) | exact LinK.afterO_old hd5 v5 rw5 fw5 (Nat.le_refl _) (by first | (simp; done) | (simp; omega))
          case rest =>
            obtain ⟨bm, Am, cm, rfl, e9, hbm, Vm, Om, d5⟩ := hcut
            have Z5 := Lib.hid (KZ.out.below d5)
            have W5 := Lib.hid (KW.out.below d5)
            have V5 := Lib.hid (KV.out.below d5)
            have B5 := Lib.hid (KB0.out.trans (d5.mono KB0.out.size))
            have hs5 := d5.size
            have VM := Lib.hid Vm
            have OM := Lib.hid Om
            obtain ⟨_, _, _, c3, _⟩ := KS.out wc d5
            clear Vm Om d5 AS KS KV KO KW KZ KB0 k0 k1 k2 k3 k4 k5
            cases r with
            | none =>
              have e9 := (show _ = Value.bool false from e9)
              subst e9
              clear c3
              have HF := Lib.hid (HR.out.trans (HN.out (Or.inr rfl)))
              have q0 := Z5.out.cell 0 (.int .i64 0) rfl
              have q1 := Z5.out.cell 1 (.slice none 0 0) rfl
              have p0 := Z5.out.frozen 0
              have p1 := Z5.out.frozen 1
              have HB := Lib.hid ((B5.out.setCell (p := ⟨w.heap.size + 1, 0, none⟩) (by simp) (.int .i64 0)).setCell (p := ⟨w.heap.size + 1, 1, none⟩) (by simp) (.slice none 0 0))
              go_wp2
              refine bodyPost_ret (v := .tuple #[.agg #[.int .i64 0, .slice none 0 0], .bool false]) (by simp [results, Try.results49, go_sem, q0, q1]) rfl ?_
              rw [HF.out]
              exact gaveO_none HB.out
            | some s' =>
              have e9 := (show _ = Value.bool true from e9)
              subst e9
              by_cases hm : m < 0
              · have hmd : decide (m < 0) = true := decide_eq_true hm
                have HF := Lib.hid (HR.out.trans (HN.out (Or.inl hm)))
                have q0 := Z5.out.cell 0 (.int .i64 0) rfl
                have q1 := Z5.out.cell 1 (.slice none 0 0) rfl
                have p0 := Z5.out.frozen 0
                have p1 := Z5.out.frozen 1
                have HB := Lib.hid ((B5.out.setCell (p := ⟨w.heap.size + 1, 0, none⟩) (by simp) (.int .i64 0)).setCell (p := ⟨w.heap.size + 1, 1, none⟩) (by simp) (.slice none 0 0))
                go_wp2
                refine bodyPost_ret (v := .tuple #[.agg #[.int .i64 0, .slice none 0 0], .bool false]) (by simp [results, Try.results49, go_sem, q0, q1]) rfl ?_
                rw [HF.out]
                exact gaveO_none HB.out
              · have hmd : decide (m < 0) = false := decide_eq_false hm
                have HT := Lib.hid (HY.out s' (by omega) rfl)
                have H8 := Lib.hid (HR8.out s' rfl)
                have n0 := VM.out.cell 0 (.int .i64 s'.1) rfl
                have n1 := VM.out.cell 1 (.slice Am s'.2.length cm) rfl
                have o0 := V5.out.cell 0 (.int .i64 s.1) rfl
                have o1 := V5.out.cell 1 (.slice G s.2.length g) rfl
                have f0 := V5.out.frozen 0
                have f1 := V5.out.frozen 1
                have OM2 := (show IntK.Own wr.heap.size wc.heap.size wc Am s'.2 from OM.out)
                have m6 : Mod w2.heap.size (w2.heap.size + 1) wc ((wc.setCell ⟨w2.heap.size, 0, none⟩ (.int .i64 s'.1)).setCell ⟨w2.heap.size, 1, none⟩ (.slice Am s'.2.length cm)) := (Mod.set _ (p := ⟨w2.heap.size, 0, none⟩) (Nat.le_refl _) (Nat.lt_succ_self _) _).trans (Mod.set _ (p := ⟨w2.heap.size, 1, none⟩) (Nat.le_refl _) (Nat.lt_succ_self _) _)
                have hv6 := (V5.out.set 0 (.int .i64 s'.1)).set 1 (.slice Am s'.2.length cm)
                have NEXT := Lib.hid (show SumRel w w2 #[Value.int IntKind.i64 N, Value.slice (some ⟨b, o, none⟩) xs.length c] s0 xs ms (.int .i64 ((k + 1 : Nat) : Int)) ((wc.setCell ⟨w2.heap.size, 0, none⟩ (.int .i64 s'.1)).setCell ⟨w2.heap.size, 1, none⟩ (.slice Am s'.2.length cm)) from
                  ⟨k + 1, s', Am, cm, wr.heap.size, wc.heap.size, by omega, rfl, HT.out, H8.out, by simpa using hv6, OM2.keep m6 (Or.inr (by omega)), Or.inr kvl, by omega, m6.size, below_mod B5.out m6 (by omega) B5.out.size, W5.out.keep m6 (by omega), Z5.out.keep m6 (by omega)⟩)
                clear m6 hv6 OM2 HN HY HR8 hm
                go_wp2
                go_roundw
                case rel => exact NEXT.out
                case measure => simp [intOf]; omega
        · obtain rfl : k = xs.length := by omega
          have HF := Lib.hid (show R = some s by have h := KB.out; rw [List.take_length, ← HLEN.out, List.take_length] at h; exact HR.out.trans h)
          have kv0 := KV.out.cell 0 (.int .i64 s.1) rfl
          have kv1 := KV.out.cell 1 (.slice G s.2.length g) rfl
          have q0 := KZ.out.cell 0 (.int .i64 0) rfl
          have q1 := KZ.out.cell 1 (.slice none 0 0) rfl
          have p0 := KZ.out.frozen 0
          have p1 := KZ.out.frozen 1
          have hge : ¬ ((xs.length : Int) < (ms.length : Int)) := by have := HLEN.out; omega
          have hgd : decide ((xs.length : Int) < (ms.length : Int)) = false := decide_eq_false hge
          have m : Mod (w.heap.size + 1) (w.heap.size + 1 + 1) wr ((wr.setCell ⟨w.heap.size + 1, 0, none⟩ (.int .i64 s.1)).setCell ⟨w.heap.size + 1, 1, none⟩ (.slice G s.2.length g)) := (Mod.set _ (p := ⟨w.heap.size + 1, 0, none⟩) (Nat.le_refl _) (Nat.lt_succ_self _) _).trans (Mod.set _ (p := ⟨w.heap.size + 1, 1, none⟩) (Nat.le_refl _) (Nat.lt_succ_self _) _)
          have HK := Lib.hid (And.intro ((KO.out.keep m (Or.inr (by omega))).1.wider (lo' := w.heap.size) (by omega) (Nat.le_trans hd3 m.size) (Nat.le_refl _)) (And.intro (KO.out.keep m (Or.inr (by omega))).2 (below_mod KB0.out m (by omega) KB0.out.size)))
          clear m KO KV KZ KW KB0 KB
          go_wp2
          refine bodyPost_ret (v := .tuple #[.agg #[.int .i64 s.1, .slice G s.2.length g], .bool true]) (by simp [results, Try.results49, go_sem, q0, q1]) rfl ⟨G, g, ?_, ?_⟩
          · rw [HF.out]; rfl
          · rw [HF.out]; exact ⟨HK.out.1, HK.out.2.1, HK.out.2.2⟩
    · have HR := Lib.hid (HNO.out (fun h => hlen h.2))
      have hne : ((ms.length : Int) != (xs.length : Int)) = true := by simp; omega
      clear hv HYES HNO hlen
      go_enter Try.func49, Try.ntmps49
      go_wp2_with fail
      refine (Calls.mono VA.out) ?_
      rintro e w1 ⟨rfl, b1⟩
      have M1 := Lib.hid (L1.out.below b1)
      have Z5 := Lib.hid (L2.out.below b1)
      have B5 := Lib.hid (BB.out.trans (b1.mono BB.out.size))
      clear b1 L1 L2 BB VA v0 v1
      have v1 := M1.out.cell 1 (.slice A xs.length c) rfl
      have HF := HR
      have q0 := Z5.out.cell 0 (.int .i64 0) rfl
      have q1 := Z5.out.cell 1 (.slice none 0 0) rfl
      have p0 := Z5.out.frozen 0
      have p1 := Z5.out.frozen 1
      have HB := Lib.hid ((B5.out.setCell (p := ⟨w.heap.size + 1, 0, none⟩) (by simp) (.int .i64 0)).setCell (p := ⟨w.heap.size + 1, 1, none⟩) (by simp) (.slice none 0 0))
      go_wp2
      refine bodyPost_ret (v := .tuple #[.agg #[.int .i64 0, .slice none 0 0], .bool false]) (by simp [results, Try.results49, go_sem, q0, q1]) rfl ?_
      rw [HF.out]
      exact gaveO_none HB.out
end FarkS
end Go.Proofs.Ytmkelfjnjnjgbaa

/-
  The model's certificates: the checks, comparison.
-/
namespace Go.Proofs.Ytmkelfjnjnjgbaa
open Go.RowKit
namespace FarkS
open RowK Mem LinM FarkM LinI

theorem inScale (sc : Int) (w : World) :
    Calls Try.prog 50 #[.int .i64 sc, .int .i64 0, .int .i64 1000000000] w fun e w' => e = .returned (.bool (scB sc)) ∧ w = w' := by
  unfold scB
  exact ArithS.inR sc 0 1000000000 w

set_option maxHeartbeats 1000000 in
set_option maxRecDepth 100000 in
theorem equal (lo hi lo' hi' : Nat) (z u : Int) (A B : Option Addr) (c d : Nat) (zs us : List Int) (w : World) (hA : Row lo hi w A (IntK.iv zs)) (hB : Row lo' hi' w B (IntK.iv us)) (hl : zs.length ≤ 1000000000) (hl2 : us.length ≤ 1000000000) :
    Calls Try.prog 12 #[.agg #[.int .i64 z, .slice A zs.length c], .agg #[.int .i64 u, .slice B us.length d]] w fun e w' => e = .returned (.bool (eqB z u zs us)) ∧ Below w.heap.size w w' := by
  have bb : Below w.heap.size w ((w.alloc (Obj.cells #[Value.int IntKind.i64 z, Value.slice A zs.length c] 33)).alloc (Obj.cells #[Value.int IntKind.i64 u, Value.slice B us.length d] 33)) := ((Below.refl _ _).alloc (Nat.le_refl _) _).alloc (by simp) _
  have BB := Lib.hid bb
  have IN := Lib.hid (fun W (h : Below w.heap.size w W) => LinS.ints lo hi lo' hi' A B c d zs us W (hA.below h) (hB.below h) hl hl2)
  clear bb
  unfold eqB
  by_cases h1 : z = u
  · subst h1
    generalize decide (zs = us) = R at *
    go_enter Try.func12, Try.ntmps12
    go_wp2_with fail
    refine (IN.out _ BB.out).mono ?_
    rintro e w1 ⟨rfl, b1⟩
    go_wp2
    go_ret
    exact ⟨by simp, BB.out.trans (b1.mono BB.out.size)⟩
  · have hne : (z == u) = false := by simpa using h1
    rw [decide_eq_false h1, Bool.false_and]
    clear h1
    go_enter Try.func12, Try.ntmps12
    go_wp2
    go_ret
    exact ⟨rfl, BB.out⟩

set_option maxHeartbeats 4000000 in
set_option maxRecDepth 100000 in
theorem checkFarkas (lo hi lo' hi' : Nat) (N : Int) (A M T : Option Addr) (c d e0 : Nat) (xs : List (Int × List Int)) (ms : List Int) (tz : Int) (ts : List Int) (sc : Int) (w : World) (hA : SysK.Arg w A xs.length c xs) (hl : linsSize xs ≤ 1000000000) (hM : Row lo hi w M (IntK.iv ms)) (hlm : ms.length ≤ 1000000000) (hT : Row lo' hi' w T (IntK.iv ts)) (hlt : ts.length ≤ 1000000000) :
    Calls Try.prog 14 #[.agg #[.int .i64 N, .slice A xs.length c], .agg #[.int .i64 tz, .slice T ts.length e0], .agg #[.int .i64 sc, .slice M ms.length d]] w fun e w' => e = .returned (.bool (checkF N xs (tz, ts) sc ms)) ∧ Below w.heap.size w w' := by
  have bb : Below w.heap.size w (((w.alloc (Obj.cells #[Value.int IntKind.i64 N, Value.slice A xs.length c] 26)).alloc (Obj.cells #[Value.int IntKind.i64 tz, Value.slice T ts.length e0] 29)).alloc (Obj.cells #[Value.int IntKind.i64 sc, Value.slice M ms.length d] 33)) := (((Below.refl _ _).alloc (Nat.le_refl _) _).alloc (by simp) _).alloc (by simp; omega) _
  have L1 := Lib.hid (((Lvar.new w #[Value.int IntKind.i64 N, Value.slice A xs.length c] 26).alloc (Obj.cells #[Value.int IntKind.i64 tz, Value.slice T ts.length e0] 29)).alloc (Obj.cells #[Value.int IntKind.i64 sc, Value.slice M ms.length d] 33))
  have l2 := (Lvar.new (w.alloc (Obj.cells #[Value.int IntKind.i64 N, Value.slice A xs.length c] 26)) #[Value.int IntKind.i64 tz, Value.slice T ts.length e0] 29).alloc (Obj.cells #[Value.int IntKind.i64 sc, Value.slice M ms.length d] 33)
  have l3 := Lvar.new ((w.alloc (Obj.cells #[Value.int IntKind.i64 N, Value.slice A xs.length c] 26)).alloc (Obj.cells #[Value.int IntKind.i64 tz, Value.slice T ts.length e0] 29)) #[Value.int IntKind.i64 sc, Value.slice M ms.length d] 33
  simp only [World.size_alloc] at l2 l3
  have L2 := Lib.hid l2
  have L3 := Lib.hid l3
  have BB := Lib.hid bb
  have CB := Lib.hid (combine lo hi N A M c d xs ms _ (hA.below bb) hl (hM.below bb) hlm)
  have CO := Lib.hid (fun W => LinS.const 1 N W)
  have IN := Lib.hid (fun W => inScale sc W)
  have hc8 := Lib.hid (constL_small 1 N)
  have hr8 := Lib.hid (combR_small N xs ms)
  have HT := Lib.hid (fun W (h : Below w.heap.size w W) => hT.below h)
  have HR := Lib.hid (show checkF N xs (tz, ts) sc ms = ((combR N xs ms).isSome && (vldB tz ts N && (scB sc && checkB N (tz, ts) sc ((combR N xs ms).getD (0, []))))) from rfl)
  have HCB := Lib.hid (fun s => (show checkB N (tz, ts) sc s = ((addS tz ts 1 (constL 1 N).1 (constL 1 N).2).isSome && contra (addS s.1 s.2 (0 - sc) ((addS tz ts 1 (constL 1 N).1 (constL 1 N).2).getD (0, [])).1 ((addS tz ts 1 (constL 1 N).1 (constL 1 N).2).getD (0, [])).2)) from rfl))
  generalize checkF N xs (tz, ts) sc ms = R at *
  generalize combR N xs ms = r at *
  generalize constL 1 N = s0 at *
  clear bb hA hM hT hl l2 l3
  cases r with
  | none =>
    have HF := Lib.hid (show R = false from HR.out)
    go_enter Try.func14, Try.ntmps14
    go_wp2_with fail
    refine (Calls.mono CB.out) ?_
    rintro e w1 ⟨G, g, e1, r1, f1, b1⟩
    have e1 := (show e = .returned (.tuple #[.agg #[.int .i64 0, .slice G 0 g], .bool false]) from e1)
    subst e1
    have B1 := BB.out.trans (b1.mono BB.out.size)
    have HB := Lib.hid (B1.alloc B1.size (Obj.cells #[Value.int IntKind.i64 0, Value.slice G 0 g] 29))
    clear r1 f1 b1 B1
    go_wp2
    go_ret
    exact ⟨by rw [HF.out]; try rfl, HB.out⟩
  | some s =>
    have h8 : s.2.length ≤ 8 := hr8.out
    have HR2 := Lib.hid (show R = (vldB tz ts N && (scB sc && checkB N (tz, ts) sc s)) from HR.out)
    have HCB2 := Lib.hid (HCB.out s)
    generalize checkB N (tz, ts) sc s = ck at *
    clear HR HCB
    go_enter Try.func14, Try.ntmps14
    go_wp2_with fail
    refine (Calls.mono CB.out) ?_
    rintro e w1 ⟨G, g, e1, r1, f1, b1⟩
    have e1 := (show e = .returned (.tuple #[.agg #[.int .i64 s.1, .slice G s.2.length g], .bool true]) from e1)
    subst e1
    have r1 := (show Row _ w1.heap.size w1 G (IntK.iv s.2) from r1)
    have a2 : Below w1.heap.size w1 (w1.alloc (Obj.cells #[Value.int IntKind.i64 s.1, Value.slice G s.2.length g] 29)) := (Below.refl _ _).alloc (Nat.le_refl _) _
    have M1 := L1.out.below b1
    have M2 := L2.out.below b1
    have M3 := L3.out.below b1
    have B1 := BB.out.trans (b1.mono BB.out.size)
    have hs1 := b1.size
    simp only [World.size_alloc] at hs1 r1
    have V2 := Lib.hid (M1.below a2)
    have T2 := Lib.hid (M2.below a2)
    have F2 := Lib.hid (M3.below a2)
    have U2 := Lib.hid (Lvar.new w1 #[Value.int IntKind.i64 s.1, Value.slice G s.2.length g] 29)
    have R2 := Lib.hid (r1.below a2)
    have B2 := Lib.hid (B1.trans (a2.mono B1.size))
    have hu : w1.heap.size < (w1.alloc (Obj.cells #[Value.int IntKind.i64 s.1, Value.slice G s.2.length g] 29)).heap.size := by simp
    have HU := Lib.hid hu
    clear r1 f1 b1 a2 M1 M2 M3 B1 hu L1 L2 L3 BB CB
    go_upto_region 2 with fail
    generalize w1.alloc (Obj.cells #[Value.int IntKind.i64 s.1, Value.slice G s.2.length g] 29) = W2 at *
    have VA := Lib.hid (LinS.valid lo' hi' tz T e0 ts N W2 (HT.out _ B2.out) hlt)
    have t0 := T2.out.cell 0 (.int .i64 tz) rfl
    have t1 := T2.out.cell 1 (.slice T ts.length e0) rfl
    have n0 := V2.out.cell 0 (.int .i64 N) rfl
    generalize vldB tz ts N = v at *
    cases v with
    | false =>
      have HF := Lib.hid (show R = false from HR2.out)
      go_wp2_with fail
      refine (Calls.mono VA.out) ?_
      rintro e w3 ⟨rfl, b3⟩
      have HB := Lib.hid (B2.out.trans (b3.mono B2.out.size))
      go_wp2
      go_ret
      exact ⟨by rw [HF.out]; try rfl, HB.out⟩
    | true =>
      go_wp2_with fail
      refine (Calls.mono VA.out) ?_
      rintro e w3 ⟨rfl, b3⟩
      have B3 := Lib.hid (B2.out.trans (b3.mono B2.out.size))
      have V3 := Lib.hid (V2.out.below b3)
      have T3 := Lib.hid (T2.out.below b3)
      have F3 := Lib.hid (F2.out.below b3)
      have U3 := Lib.hid (U2.out.below b3)
      have R3 := Lib.hid (R2.out.below b3)
      have hs3 := b3.size
      clear b3 t0 t1 n0 V2 T2 F2 U2 R2 B2 VA
      have f0 := F3.out.cell 0 (.int .i64 sc) rfl
      cases hsc : scB sc with
      | false =>
        have HF := Lib.hid (show R = false by rw [HR2.out, hsc]; rfl)
        rw [hsc] at IN
        go_wp2_with fail
        refine (Calls.mono (IN.out _)) ?_
        rintro e w4 ⟨rfl, rfl⟩
        go_wp2
        go_ret
        exact ⟨by rw [HF.out]; try rfl, B3.out⟩
      | true =>
        have hsc' : 0 ≤ sc ∧ sc ≤ 1000000000 := by unfold scB at hsc; simpa using hsc
        have hneg : IntKind.i64.wrap (-sc) = -sc := IntWalk.i64_in _ (by omega)
        have HNEG := Lib.hid hneg
        have HRC := Lib.hid (show R = ck by rw [HR2.out, hsc]; rfl)
        rw [hsc] at IN
        clear hsc hsc' hneg HR2
        go_wp2_with fail
        refine (Calls.mono (IN.out _)) ?_
        rintro e w4 ⟨rfl, rfl⟩
        clear IN f0
        go_upto_region 4 with fail
        have AS := Lib.hid (fun C c2 lo2 hi2 W (h1 : Below w3.heap.size w3 W) (h2 : Row lo2 hi2 W C (IntK.iv s0.2)) => LinS.addScaled lo' hi' lo2 hi2 tz 1 s0.1 T C e0 c2 ts s0.2 W (HT.out W (B3.out.trans (h1.mono B3.out.size))) h2 hlt (by have := hc8.out; omega))
        have HRS := Lib.hid (LinI.addS_len tz ts 1 s0.1 s0.2)
        generalize addS tz ts 1 s0.1 s0.2 = ra at *
        have KS := Lib.hid (fun W (h : Below w3.heap.size w3 W) => (show W.cell? ⟨w.heap.size + 1, 0, none⟩ = some (Value.int .i64 tz) ∧ W.cell? ⟨w.heap.size + 1, 1, none⟩ = some (Value.slice T ts.length e0) ∧ W.cell? ⟨w.heap.size, 0, none⟩ = some (Value.int .i64 N) from ⟨(T3.out.below h).cell 0 _ rfl, (T3.out.below h).cell 1 _ rfl, (V3.out.below h).cell 0 _ rfl⟩))
        obtain ⟨k3, k4, k0⟩ := KS.out w3 (Below.refl _ _)
        have lv3 := V3.out.lt
        have lt3 := T3.out.lt
        go_cut [9, 10] (fun s9 s10 wx => LinK.AfterO w3 (ra.getD (0, [])) ra.isSome s9 s10 wx)
        case first =>
          go_region_held3 (fun w' => w'.cell? ⟨w.heap.size + 1, 0, none⟩ = some (Value.int .i64 tz) ∧ w'.cell? ⟨w.heap.size + 1, 1, none⟩ = some (Value.slice T ts.length e0) ∧ w'.cell? ⟨w.heap.size, 0, none⟩ = some (Value.int .i64 N))
            (first | exact KS.out _ hd5 | exact KS.out _ hd4 | exact KS.out _ (Below.refl _ _).drew | exact KS.out _ (hd5.alloc hd5.size _) | exact KS.out _ (hd4.alloc hd4.size _) | exact KS.out _ ((Below.refl _ _).alloc (Nat.le_refl _) _).drew | exact KS.out _ ((hd5.setCell (by first | (simp; done) | (exact hd4.size)) _).setCell (by first | (simp; done) | (exact hd4.size)) _))
            (first
              | (go_at_call 46; refine (Calls.mono (CO.out _)) ?_; rintro e u4 ⟨C2, g2, rfl, rc2, fc2, b4⟩; (have hd4 : Below w3.heap.size w3 u4 := by first | exact ((Below.refl w3.heap.size w3).drew).trans (b4.mono ((Below.refl w3.heap.size w3).drew).size) | exact (((Below.refl w3.heap.size w3).alloc (Nat.le_refl _) _).drew).trans (b4.mono (((Below.refl w3.heap.size w3).alloc (Nat.le_refl _) _).drew).size)); (try (have v4 : Lvar u4 w3.heap.size #[Value.int .i64 0, Value.slice none 0 0] := ((Lvar.new w3 _ _).below (Below.refl _ _).drew).below b4)))
              | (go_at_call 45; refine (Calls.mono (AS.out C2 g2 _ _ _ (by first | exact hd4 | exact hd4.alloc hd4.size _) (rc2.below (by first | exact Below.refl _ _ | exact (Below.refl _ _).alloc (Nat.le_refl _) _)))) ?_; rintro e u5 ⟨Aw, cw, rfl, rw5, fw5, b5⟩; (have hs5 : Below u4.heap.size u4 u5 := by first | exact b5 | exact ((Below.refl _ _).alloc (Nat.le_refl _) _).trans (b5.mono (by simp))); (have hd5 := hd4.trans (hs5.mono hd4.size)); (try (have v5 := v4.below hs5)); (try (have v5 : Lvar u5 u4.heap.size #[Value.int .i64 0, Value.slice none 0 0] := (Lvar.new u4 _ _).below b5)); (try (have z0 := v5.cell 0 (Value.int .i64 0) rfl)); (try (have z1 := v5.cell 1 (Value.slice none 0 0) rfl)); (try (have y0 := v5.frozen 0)); (try (have y1 := v5.frozen 1))))
          all_goals (go_wp2_with fail)
          all_goals go_meet
          all_goals first | exact LinK.afterO_new hd5 rw5 fw5 (by first | exact hd4.size | (have := hd4.size; simp; omega)) | exact LinK.afterO_old hd5 v5 rw5 fw5 (by first | exact hd4.size | exact Nat.le_refl _) (by first | exact v4.lt | (simp; done) | (simp; omega))
        case rest =>
          obtain ⟨bm, Am, cm, rfl, rfl, hbm, Vm, Om, d5⟩ := hcut
          have VM := Lib.hid Vm
          have OM := Lib.hid Om
          have U5 := Lib.hid (U3.out.below d5)
          have F5 := Lib.hid (F3.out.below d5)
          have R5 := Lib.hid (R3.out.below d5)
          have B5 := Lib.hid (B3.out.trans (d5.mono B3.out.size))
          have AF := Lib.hid (LinS.addScaled _ _ _ _ s.1 (-sc) (ra.getD (0, [])).1 G Am g cm s.2 (ra.getD (0, [])).2 wc R5.out OM.out.1 (by omega) (by have := HRS.out; omega))
          rw [show (0 : Int) - sc = -sc by omega] at HCB2
          have HB8 := Lib.hid (LinI.addS_len s.1 s.2 (-sc) (ra.getD (0, [])).1 (ra.getD (0, [])).2)
          generalize addS s.1 s.2 (-sc) (ra.getD (0, [])).1 (ra.getD (0, [])).2 = rb at *
          generalize ra.getD (0, []) = m at *
          generalize ra.isSome = t at *
          have u0 := U5.out.cell 0 (.int .i64 s.1) rfl
          have u1 := U5.out.cell 1 (.slice G s.2.length g) rfl
          have f0 := F5.out.cell 0 (.int .i64 sc) rfl
          have m0 := VM.out.cell 0 (.int .i64 m.1) rfl
          have m1 := VM.out.cell 1 (.slice Am m.2.length cm) rfl
          have hneg := HNEG.out
          clear Vm Om d5 KS AS CO k3 k4 k0 U3 F3 R3 B3 V3 T3
          go_wp2_with fail
          refine (Calls.mono AF.out) ?_
          rintro e w6 ⟨F, f, rfl, r6, f6, b6⟩
          have a7 : Below w6.heap.size w6 (w6.alloc (Obj.cells #[Value.int IntKind.i64 (rb.getD (0, [])).1, Value.slice F (rb.getD (0, [])).2.length f] 29)) := (Below.refl _ _).alloc (Nat.le_refl _) _
          have B6 := B5.out.trans (b6.mono B5.out.size)
          have B7 := Lib.hid (B6.trans (a7.mono B6.size))
          have O7 := Lib.hid (Lvar.new w6 #[Value.int IntKind.i64 (rb.getD (0, [])).1, Value.slice F (rb.getD (0, [])).2.length f] 29)
          have IC := Lib.hid (isConst _ _ (rb.getD (0, [])).1 F f (rb.getD (0, [])).2 _ (r6.below a7) (by have := HB8.out; omega))
          have HX := Lib.hid (show contra rb = (rb.isSome && (isC (rb.getD (0, [])).2 && decide ((rb.getD (0, [])).1 < 0))) from rfl)
          generalize contra rb = cr at *
          generalize rb.isSome = p at *
          generalize rb.getD (0, []) = n at *
          generalize isC n.2 = y at *
          clear r6 f6 b6 a7 B6 u0 u1 f0 m0 m1
          cases t with
          | false =>
            have HF := Lib.hid (show R = false from HRC.out.trans HCB2.out)
            go_wp2
            go_ret
            exact ⟨by rw [HF.out]; try rfl, B7.out⟩
          | true =>
            cases p with
            | false =>
              have HF := Lib.hid (show R = false from HRC.out.trans (HCB2.out.trans HX.out))
              go_wp2
              go_ret
              exact ⟨by rw [HF.out]; try rfl, B7.out⟩
            | true =>
              go_wp2_with fail
              refine (Calls.mono IC.out) ?_
              rintro e w8 ⟨rfl, b8⟩
              have V8 := Lib.hid (O7.out.below b8)
              have B8 := Lib.hid (B7.out.trans (b8.mono B7.out.size))
              have v0 := V8.out.cell 0 (.int .i64 n.1) rfl
              clear b8
              cases y with
              | false =>
                have HF := Lib.hid (show R = false from HRC.out.trans (HCB2.out.trans HX.out))
                go_wp2
                go_ret
                exact ⟨by rw [HF.out]; try rfl, B8.out⟩
              | true =>
                have HF := Lib.hid (show R = decide (n.1 < 0) from HRC.out.trans (HCB2.out.trans HX.out))
                by_cases hs : n.1 < 0
                · have hs' : decide (n.1 < 0) = true := decide_eq_true hs
                  clear hs
                  go_wp2
                  go_ret
                  exact ⟨by rw [HF.out]; try simp [hs'], B8.out⟩
                · have hs' : decide (n.1 < 0) = false := decide_eq_false hs
                  clear hs
                  go_wp2
                  go_ret
                  exact ⟨by rw [HF.out]; try simp [hs'], B8.out⟩
end FarkS
end Go.Proofs.Ytmkelfjnjnjgbaa
