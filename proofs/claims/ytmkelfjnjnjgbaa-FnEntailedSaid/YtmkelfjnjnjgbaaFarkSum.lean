import Derived.Test.YtmkelfjnjnjgbaaFarkRows
import Derived.Test.YtmkelfjnjnjgbaaLinImpl3
import Derived.Deep.DeepCutAuto
import Derived.Deep.CutRange
/-
  The program's certificates: the combination of the weighted rows.
-/
namespace Go.Proofs.Ytmkelfjnjnjgbaa
open Go.RowKit
namespace FarkI
open RowK Mem LinM FarkM LinI

/-- Behind the sum's statement. -/
def SumCut (w2 wr : World) (r : Option (Int × List Int)) (s : Value) (wx : World) : Prop :=
  ∃ G g, s = .bool r.isSome ∧ Lvar wx w2.heap.size #[.int .i64 (r.getD (0, [])).1, .slice G (r.getD (0, [])).2.length g] ∧ (r.getD (0, [])).2.length ≤ g ∧ IntK.Own wr.heap.size wx.heap.size wx G (r.getD (0, [])).2 ∧ Mod w2.heap.size (w2.heap.size + 1) wr wx
/-- The sum so far. -/
def SumRel (w w2 : World) (cs : Array Value) (s0 : Int × List Int) (xs : List (Int × List Int)) (ms : List Int) (i : Value) (wr : World) : Prop :=
  ∃ (k : Nat) (s : Int × List Int) (G : Option Addr) (g lo hi : Nat), k ≤ xs.length ∧ i = .int .i64 k ∧ comb s0 (ms.take k) (xs.take k) = some s ∧ s.2.length ≤ 8 ∧ s.2.length ≤ g ∧
    Lvar wr w2.heap.size #[.int .i64 s.1, .slice G s.2.length g] ∧ IntK.Own lo hi wr G s.2 ∧ (hi ≤ w2.heap.size ∨ w2.heap.size < lo) ∧ w.heap.size + 1 < lo ∧ hi ≤ wr.heap.size ∧
    Below w.heap.size w wr ∧ Lvar wr w.heap.size cs ∧ Lvar wr (w.heap.size + 1) #[.int .i64 0, .slice none 0 0]

theorem sumCut_mk {w2 wr w4 : World} {r : Option (Int × List Int)} {G : Option Addr} {g lo : Nat} {x y : Value} (hl : w2.heap.size < wr.heap.size) (dd : Below wr.heap.size wr w4) (V : Lvar w4 w2.heap.size #[x, y]) (hr : Row lo w4.heap.size w4 G (IntK.iv (r.getD (0, [])).2)) (hf : Free w4 G (r.getD (0, [])).2.length) (hlo : wr.heap.size ≤ lo) (hg : (r.getD (0, [])).2.length ≤ g) :
    SumCut w2 wr r (.bool r.isSome) ((w4.setCell ⟨w2.heap.size, 0, none⟩ (.int .i64 (r.getD (0, [])).1)).setCell ⟨w2.heap.size, 1, none⟩ (.slice G (r.getD (0, [])).2.length g)) := by
  have m : Mod w2.heap.size (w2.heap.size + 1) w4 ((w4.setCell ⟨w2.heap.size, 0, none⟩ (.int .i64 (r.getD (0, [])).1)).setCell ⟨w2.heap.size, 1, none⟩ (.slice G (r.getD (0, [])).2.length g)) := (Mod.set _ (p := ⟨w2.heap.size, 0, none⟩) (Nat.le_refl _) (Nat.lt_succ_self _) _).trans (Mod.set _ (p := ⟨w2.heap.size, 1, none⟩) (Nat.le_refl _) (Nat.lt_succ_self _) _)
  have hv := (V.set 0 (.int .i64 (r.getD (0, [])).1)).set 1 (.slice G (r.getD (0, [])).2.length g)
  exact ⟨G, g, rfl, by simpa using hv, hg, ⟨(hr.keep m (Or.inr (by omega))).wider hlo m.size (Nat.le_refl _), hf.keep hr (by rw [IntK.iv_len]; exact Nat.le_refl _) m (Or.inr (by omega))⟩, (Mod.of_below dd).trans m⟩

set_option maxHeartbeats 4000000 in
set_option maxRecDepth 100000 in
theorem sumC (lo hi : Nat) (N : Int) (A M : Option Addr) (c d : Nat) (xs : List (Int × List Int)) (ms : List Int) (w : World) (hA : SysK.Arg w A xs.length c xs) (hl : linsSize xs ≤ 1000000000) (hM : Row lo hi w M (IntK.iv ms)) (hlm : ms.length ≤ 1000000000) :
    Calls Try.prog 99 #[.agg #[.int .i64 N, .slice A xs.length c, .slice M ms.length d]] w (GaveOC w (combR N xs ms)) := by
  have hxl : xs.length ≤ 1000000000 := by unfold linsSize at hl; omega
  have bb : Below w.heap.size w ((w.alloc (Obj.cells #[Value.int IntKind.i64 N, Value.slice A xs.length c, Value.slice M ms.length d] 110)).alloc (Obj.cells #[Value.int IntKind.i64 0, Value.slice none 0 0] 29)) := ((Below.refl _ _).alloc (Nat.le_refl _) _).alloc (by simp) _
  have L1 := Lib.hid ((Lvar.new w #[Value.int IntKind.i64 N, Value.slice A xs.length c, Value.slice M ms.length d] 110).alloc (Obj.cells #[Value.int IntKind.i64 0, Value.slice none 0 0] 29))
  have L2 := Lvar.new (w.alloc (Obj.cells #[Value.int IntKind.i64 N, Value.slice A xs.length c, Value.slice M ms.length d] 110)) #[Value.int IntKind.i64 0, Value.slice none 0 0] 29
  simp only [World.size_alloc] at L2
  have L2 := Lib.hid L2
  have BB := Lib.hid bb
  have VA := Lib.hid (rowsValid lo hi N A M c d xs ms _ (hA.below bb) hl (hM.below bb) hlm)
  have v0 := L1.out.cell 0 (.int .i64 N) rfl
  have v1 := L1.out.cell 1 (.slice A xs.length c) rfl
  have v2 := L1.out.cell 2 (.slice M ms.length d) rfl
  obtain ⟨q, fp, hA⟩ := hA
  have HA := Lib.hid hA
  have HM := Lib.hid hM
  have HSZ := Lib.hid (fun x (h : x ∈ xs) => linsSize_mem h)
  have HL := Lib.hid hl
  clear bb hA hM hl
  cases hw : wB N xs ms with
  | false =>
    have HR := Lib.hid (combR_no hw)
    rw [hw] at VA
    generalize combR N xs ms = R at *
    clear hw
    go_enter Try.func99, Try.ntmps99
    go_wp2_with fail
    refine (Calls.mono VA.out) ?_
    rintro e w1 ⟨rfl, b1⟩
    have M2 := Lib.hid (L2.out.below b1)
    have B1 := Lib.hid (BB.out.trans (b1.mono BB.out.size))
    clear b1 L1 L2 BB VA v0 v1 v2
    have q0 := M2.out.cell 0 (.int .i64 0) rfl
    have q1 := M2.out.cell 1 (.slice none 0 0) rfl
    have p0 := M2.out.frozen 0
    have p1 := M2.out.frozen 1
    have HB := Lib.hid ((B1.out.setCell (p := ⟨w.heap.size + 1, 0, none⟩) (by simp) (.int .i64 0)).setCell (p := ⟨w.heap.size + 1, 1, none⟩) (by simp) (.slice none 0 0))
    go_wp2
    refine bodyPost_ret (v := .tuple #[.agg #[.int .i64 0, .slice none 0 0], .bool false]) (by simp [results, Try.results99, go_sem, q0, q1]) rfl ?_
    rw [HR.out]
    exact gaveOC_none HB.out
  | true =>
    obtain ⟨hcr, hlen, hms⟩ := combR_yes hw
    have HR := Lib.hid hcr
    have HLEN := Lib.hid hlen
    have HMS := Lib.hid hms
    rw [hw] at VA
    have CO := Lib.hid (fun W => constC 0 N W)
    have hs0 := constL_small 0 N
    generalize combR N xs ms = R at *
    generalize constL 0 N = s0 at *
    have HS0 := Lib.hid hs0
    clear hw hcr hms hs0 hlen
    go_enter Try.func99, Try.ntmps99
    go_wp2_with fail
    refine (Calls.mono VA.out) ?_
    rintro e w1 ⟨rfl, b1⟩
    have M1 := Lib.hid (L1.out.below b1)
    have M2 := Lib.hid (L2.out.below b1)
    have B1 := Lib.hid (BB.out.trans (b1.mono BB.out.size))
    have hs1 := b1.size
    simp only [World.size_alloc] at hs1
    clear b1 L1 L2 BB VA v0 v1 v2
    have v0 := M1.out.cell 0 (.int .i64 N) rfl
    go_wp2_with fail
    refine (Calls.mono (CO.out _)) ?_
    rintro e w2 ⟨A2, c2, rfl, r2, f2, b2, hc2⟩
    have N1 := Lib.hid (M1.out.below b2)
    have N2 := Lib.hid (M2.out.below b2)
    have B2 := Lib.hid (B1.out.trans (b2.mono B1.out.size))
    have hs2 := b2.size
    have O2 := Lib.hid (show IntK.Own w1.heap.size w2.heap.size w2 A2 s0.2 from ⟨r2, f2⟩)
    have HC2 := Lib.hid hc2
    clear b2 M1 M2 B1 v0 r2 f2 hc2 CO
    have n1 := N1.out.cell 1 (.slice A xs.length c) rfl
    have ln1 := N1.out.lt
    have a3 : Below w2.heap.size w2 (w2.alloc (Obj.cells #[Value.int IntKind.i64 s0.1, Value.slice A2 s0.2.length c2] 29)) := (Below.refl _ _).alloc (Nat.le_refl _) _
    have START := Lib.hid (show SumRel w w2 #[Value.int IntKind.i64 N, Value.slice A xs.length c, Value.slice M ms.length d] s0 xs ms (.int .i64 0) (w2.alloc (Obj.cells #[Value.int IntKind.i64 s0.1, Value.slice A2 s0.2.length c2] 29)) from
      ⟨0, s0, A2, c2, w1.heap.size, w2.heap.size, Nat.zero_le _, rfl, by rw [List.take_zero, comb_nil], HS0.out, HC2.out, Lvar.new _ _ _, O2.out.below a3, Or.inl (Nat.le_refl _), by omega, by simp, B2.out.trans (a3.mono B2.out.size), N1.out.below a3, N2.out.below a3⟩)
    clear N1 N2 O2 a3
    go_wp2
    go_loopw [20] (fun i wr => SumRel w w2 #[Value.int IntKind.i64 N, Value.slice A xs.length c, Value.slice M ms.length d] s0 xs ms i wr) (fun i _ => xs.length - (intOf i).toNat)
    case atStart => exact START.out
    case round =>
      obtain ⟨k, s, G, g, lo1, hi1, hk, rfl, hcb, hs8, hsg, hV, hO, hd1, hd2, hd3, hb, hW, hZ⟩ := hrel
      have KB := Lib.hid hcb
      have KG := Lib.hid hsg
      have KV := Lib.hid hV
      have KO := Lib.hid hO
      have KB0 := Lib.hid hb
      have KW := Lib.hid hW
      have KZ := Lib.hid hZ
      clear hcb hsg hV hO hb hW hZ START n1 ln1
      by_cases hlt : k < xs.length
      · have hlt2 : k < ms.length := by rw [HLEN.out]; exact hlt
        obtain ⟨b, o, B, d1, lo2, hi2, rfl, hbb, x0, x1, _, rx⟩ := lins_at (Rep.below HA.out KB0.out) hlt
        obtain ⟨bM, oM, rfl, hbM, xm⟩ := IntK.at_ (HM.out.below KB0.out) hlt2
        have hx := HSZ.out _ (List.getElem_mem hlt)
        have hs9 : xs[k].2.length ≤ 1000000000 := by have := HL.out; omega
        have HM0 := Lib.hid (HMS.out _ (List.getElem_mem hlt2))
        have HN := Lib.hid (fun h => comb_stop (s := s) hlt2 hlt KB.out (Or.inr h))
        have HY := Lib.hid (fun s' h => comb_step (s := s) (s' := s') hlt2 hlt KB.out HM0.out h)
        clear hx
        generalize xs[k] = x at *
        generalize ms[k] = m at *
        obtain ⟨z, zs⟩ := x
        simp only at x0 x1 rx hs9 HN HY
        have lM := World.block_lt_of_cell? _ _ xm
        have ha : Below wr.heap.size wr (wr.alloc (Obj.cells #[Value.int IntKind.i64 z, Value.slice B zs.length d1] 29)) := (Below.refl _ _).alloc (Nat.le_refl _) _
        have AS := Lib.hid (addScaledC lo1 hi1 lo2 hi2 s.1 m z G B g d1 s.2 zs (wr.alloc (Obj.cells #[Value.int IntKind.i64 z, Value.slice B zs.length d1] 29)).drew ((KO.out.1.below ha).below (Below.refl _ _).drew) ((rx.below ha).below (Below.refl _ _).drew) (by omega) hs9)
        have HR8 := Lib.hid (fun s' (h : addS s.1 s.2 m z zs = some s') => addS_small (x := (z, zs)) h)
        generalize addS s.1 s.2 m z zs = r at *
        have hi0 : (0 : Int) ≤ (k : Int) := by omega
        have hi1' : (k : Int) < (xs.length : Int) := by omega
        have hi2' : (k : Int) < (ms.length : Int) := by omega
        have kv0 := KV.out.cell 0 (.int .i64 s.1) rfl
        have kv1 := KV.out.cell 1 (.slice G s.2.length g) rfl
        have kvl := KV.out.lt
        have kw2 := KW.out.cell 2 (.slice (some ⟨bM, oM, none⟩) ms.length d) rfl
        have kwl := KW.out.lt
        go_upto_region 7 with fail
        go_cut [5] from 21 to 39 (fun s5 wx => SumCut w2 wr r s5 wx)
        case first =>
          go_region_law (first
            | (go_simp; go_at_call 73; refine (Calls.mono AS.out) ?_; rintro e w4 ⟨G4, g4, rfl, r4, f4, b4, hg4⟩; (have dd : Below wr.heap.size wr w4 := ((Below.refl wr.heap.size wr).alloc (Nat.le_refl _) _).drew.trans (b4.mono (by simp))); (have V4 := KV.out.below dd); (have t0 := V4.cell 0 (.int .i64 s.1) rfl); (have t1 := V4.cell 1 (.slice G s.2.length g) rfl); (have p0 := V4.frozen 0); (have p1 := V4.frozen 1)))
          all_goals
            go_wp2_with fail
            go_meet
            exact sumCut_mk kvl dd V4 r4 f4 (by simp) hg4
        case rest =>
          obtain ⟨G5, g5, e5, V5, hg5, O5, m5⟩ := hcut
          have K5 := Lib.hid (And.intro V5 (And.intro hg5 (And.intro O5 m5)))
          have Z5 := Lib.hid (KZ.out.keep m5 (by omega))
          have W5 := Lib.hid (KW.out.keep m5 (by omega))
          have B5 := Lib.hid (below_mod KB0.out m5 (by omega) KB0.out.size)
          have hs5 := m5.size
          clear V5 hg5 O5 m5 AS KV KO KW KZ kv0 kv1 kw2 x0 x1 xm rx ha kwl lM
          cases r with
          | none =>
            have e5 := (show _ = Value.bool false from e5)
            subst e5
            have HF := Lib.hid (HR.out.trans (HN.out rfl))
            clear HN HY
            have q0 := Z5.out.cell 0 (.int .i64 0) rfl
            have q1 := Z5.out.cell 1 (.slice none 0 0) rfl
            have p0 := Z5.out.frozen 0
            have p1 := Z5.out.frozen 1
            have HB := Lib.hid ((B5.out.setCell (p := ⟨w.heap.size + 1, 0, none⟩) (by simp) (.int .i64 0)).setCell (p := ⟨w.heap.size + 1, 1, none⟩) (by simp) (.slice none 0 0))
            go_wp2
            refine bodyPost_ret (v := .tuple #[.agg #[.int .i64 0, .slice none 0 0], .bool false]) (by simp [results, Try.results99, go_sem, q0, q1]) rfl ?_
            rw [HF.out]
            exact gaveOC_none HB.out
          | some s' =>
            have e5 := (show _ = Value.bool true from e5)
            subst e5
            have HT := Lib.hid (HY.out s' rfl)
            have H8 := Lib.hid (HR8.out s' rfl)
            clear HN HY HR8
            go_wp2
            go_roundw
            case rel => exact ⟨k + 1, s', G5, g5, wr.heap.size, wc.heap.size, by omega, by go_num, HT.out, H8.out, K5.out.2.1, K5.out.1, K5.out.2.2.1, Or.inr kvl, by omega, Nat.le_refl _, B5.out, W5.out, Z5.out⟩
            case measure => simp [intOf]; omega
      · obtain rfl : k = xs.length := by omega
        have HF := Lib.hid (show R = some s by have h := KB.out; rw [List.take_length, ← HLEN.out, List.take_length] at h; exact HR.out.trans h)
        have kv0 := KV.out.cell 0 (.int .i64 s.1) rfl
        have kv1 := KV.out.cell 1 (.slice G s.2.length g) rfl
        have q0 := KZ.out.cell 0 (.int .i64 0) rfl
        have q1 := KZ.out.cell 1 (.slice none 0 0) rfl
        have p0 := KZ.out.frozen 0
        have p1 := KZ.out.frozen 1
        have m : Mod (w.heap.size + 1) (w.heap.size + 1 + 1) wr ((wr.setCell ⟨w.heap.size + 1, 0, none⟩ (.int .i64 s.1)).setCell ⟨w.heap.size + 1, 1, none⟩ (.slice G s.2.length g)) := (Mod.set _ (p := ⟨w.heap.size + 1, 0, none⟩) (Nat.le_refl _) (Nat.lt_succ_self _) _).trans (Mod.set _ (p := ⟨w.heap.size + 1, 1, none⟩) (Nat.le_refl _) (Nat.lt_succ_self _) _)
        have HK := Lib.hid (And.intro ((KO.out.keep m (Or.inr (by omega))).1.wider (lo' := w.heap.size) (by omega) (Nat.le_trans hd3 m.size) (Nat.le_refl _)) (And.intro (KO.out.keep m (Or.inr (by omega))).2 (below_mod KB0.out m (by omega) KB0.out.size)))
        have KG' := KG
        clear m KO KV KZ KW KB0 KB
        go_wp2
        refine bodyPost_ret (v := .tuple #[.agg #[.int .i64 s.1, .slice G s.2.length g], .bool true]) (by simp [results, Try.results99, go_sem, q0, q1]) rfl ⟨G, g, ?_, ?_⟩
        · rw [HF.out]; rfl
        · rw [HF.out]; exact ⟨HK.out.1, HK.out.2.1, HK.out.2.2, KG'.out⟩
end FarkI
end Go.Proofs.Ytmkelfjnjnjgbaa
