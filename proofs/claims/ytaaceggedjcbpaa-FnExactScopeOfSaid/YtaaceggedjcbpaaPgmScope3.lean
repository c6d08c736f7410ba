import Derived.Test.YtaaceggedjcbpaaPgmScope2
import Derived.Test.YtaaceggedjcbpaaPgmArg
import Derived.Deep.DeepCutAuto
/-
  ScopeOf, of the program.
-/
namespace Go.Proofs.Ytaaceggedjcbpaa
open Go.RowKit
namespace ProgI
open RowK Mem

/-- The names that the first calls bind. -/
def nmC (cs : List CallT) : List ByteArray := cs.map (·.1)
/-- The names that are visible. -/
def scopeM (fs : List FunctionT) (z0 : ByteArray) (ps : List PatternT) (cs : List CallT) (n : Int) : List ByteArray :=
  match findF fs z0 with
  | none => []
  | some f => if 0 ≤ n ∧ n ≤ (cs.length : Int) then f.2.1 ++ nmP ps ++ nmC (cs.take n.toNat) else []
theorem arg_fn {w : World} {A1 A3 : Option Addr} {c1 c3 : Nat} {z0 : ByteArray} {x1 : List ByteArray} {z2 : Bool} {x3 : List (Int × List Int)} (h : ArgR fn w [.string z0, .slice A1 x1.length c1, .bool z2, .slice A3 x3.length c3] (z0, x1, z2, x3)) : ArgS Rep.str w A1 x1.length c1 x1 ∧ ArgS lin w A3 x3.length c3 x3 := by
  obtain ⟨q, fp, h⟩ := h
  obtain ⟨f1, f3, _, h1, h3⟩ := fn_parts h
  exact ⟨⟨q, f1, h1⟩, q, f3, h3⟩
theorem nmC_snoc (cs : List CallT) (x : CallT) : nmC (cs ++ [x]) = nmC cs ++ [x.1] := by simp [nmC]
theorem gaveS_nil {w w' : World} (hb : Below w.heap.size w w') : GaveS w [] (.returned (.slice none 0 0)) w' := ⟨none, 0, rfl, OwnS.nil _ _ _ _ (Nat.le_refl _), hb⟩

set_option maxHeartbeats 4000000 in
set_option maxRecDepth 100000 in
theorem scopeOf (A B : Option Addr) (m c d : Nat) (fs : List FunctionT) (z0 : ByteArray) (A1 : Option Addr) (c1 : Nat) (x1 : List PatternT) (A2 : Option Addr) (c2 : Nat) (x2 : List SumT) (A3 : Option Addr) (c3 : Nat) (x3 : List CallT) (z4 : Bool) (A5 : Option Addr) (c5 : Nat) (x5 : List SumT) (z6 : ByteArray) (n : Int) (w : World)
    (hA : ArgS fn w A fs.length c fs) (hl : fs.length + szs szFunctionU fs ≤ 100000000) (h1 : ArgS pat w A1 x1.length c1 x1) (h3 : ArgS call w A3 x3.length c3 x3) (hl1 : x1.length ≤ 100000000) (hl3 : x3.length ≤ 100000000) :
    Calls Try.prog 18 #[.agg #[.slice A fs.length c, .slice B m d], .agg #[.string z0, .slice A1 x1.length c1, .slice A2 x2.length c2, .slice A3 x3.length c3, .bool z4, .slice A5 x5.length c5, .string z6], .int .i64 n] w (GaveS w (scopeM fs z0 x1 x3 n)) := by
  obtain ⟨i0, hi, hz0, hz1, hz2⟩ := info_parts strInfoU
  have b0 : Below w.heap.size w ((w.alloc (Obj.cells #[Value.slice A fs.length c, Value.slice B m d] 36)).alloc (Obj.cells #[Value.string z0, Value.slice A1 x1.length c1, Value.slice A2 x2.length c2, Value.slice A3 x3.length c3, Value.bool z4, Value.slice A5 x5.length c5, Value.string z6] 58)) := ((Below.refl _ _).alloc (Nat.le_refl _) _).alloc (by simp) _
  have B0 := Lib.hid b0
  have V0 := Lvar.new (w.alloc (Obj.cells #[Value.slice A fs.length c, Value.slice B m d] 36)) #[Value.string z0, Value.slice A1 x1.length c1, Value.slice A2 x2.length c2, Value.slice A3 x3.length c3, Value.bool z4, Value.slice A5 x5.length c5, Value.string z6] 58
  simp only [World.size_alloc] at V0
  have V0 := Lib.hid V0
  have FF := Lib.hid (find A B m c d fs z0 _ (hA.below b0) hl)
  have HP := Lib.hid h1
  have HC := Lib.hid h3
  have HFS := Lib.hid (find_small (nm := z0) hl)
  clear hA h1 h3 b0 hl
  go_enter Try.func18, Try.ntmps18
  go_wp2_with fail
  refine (Calls.mono FF.out) ?_
  rintro e w1 ⟨D1, d1, D3, d3, rfl, o1, b1⟩
  have B1 := Lib.hid (below_step B0.out b1)
  have V1 := Lib.hid (V0.out.below b1)
  have O1 := Lib.hid o1
  have hz := b1.size
  simp only [World.size_alloc] at hz
  clear o1 b1
  have HS := Lib.hid (show scopeM fs z0 x1 x3 n = (match findF fs z0 with | none => [] | some f => if 0 ≤ n ∧ n ≤ (x3.length : Int) then f.2.1 ++ nmP x1 ++ nmC (x3.take n.toNat) else []) from rfl)
  cases hF : findF fs z0 with
  | none =>
    have HR := Lib.hid (show scopeM fs z0 x1 x3 n = [] by rw [HS.out, hF])
    have FIN := Lib.hid (gaveS_nil (w := w) (B1.out.alloc B1.out.size (Obj.cells #[Value.string ByteArray.empty, Value.slice D1 0 d1, Value.bool false, Value.slice D3 0 d3] 30)))
    simp only [Option.getD_none, Option.isSome_none, zeroF, List.length_nil]
    clear hF HS
    go_wp2
    go_ret
    rw [HR.out]
    exact FIN.out
  | some f =>
    rw [hF] at HS HFS
    obtain ⟨fz0, fx1, fz2, fx3⟩ := f
    have O2 := O1.out
    rw [hF] at O2
    have O2 := Lib.hid (OwnR.arg (show OwnR fn _ w1.heap.size w1 [.string fz0, .slice D1 fx1.length d1, .bool fz2, .slice D3 fx3.length d3] (fz0, fx1, fz2, fx3) from O2))
    have hfx : fx1.length ≤ 100000000 := by
      have h9 : szFunctionU (fz0, fx1, fz2, fx3) ≤ 100000000 := HFS.out
      simp only [szFunctionU] at h9
      omega
    simp only [Option.getD_some, Option.isSome_some]
    clear hF O1 HFS
    have V2 := Lib.hid (V1.out.alloc (Obj.cells #[Value.string fz0, Value.slice D1 fx1.length d1, Value.bool fz2, Value.slice D3 fx3.length d3] 30))
    have L2 := Lib.hid (Lvar.new w1 #[Value.string fz0, Value.slice D1 fx1.length d1, Value.bool fz2, Value.slice D3 fx3.length d3] 30)
    have B2 := Lib.hid (B1.out.alloc B1.out.size (Obj.cells #[Value.string fz0, Value.slice D1 fx1.length d1, Value.bool fz2, Value.slice D3 fx3.length d3] 30))
    have O3 := Lib.hid (O2.out.below ((Below.refl w1.heap.size w1).alloc (Nat.le_refl _) (Obj.cells #[Value.string fz0, Value.slice D1 fx1.length d1, Value.bool fz2, Value.slice D3 fx3.length d3] 30)))
    have hzw : w1.heap.size + 1 ≤ (w1.alloc (Obj.cells #[Value.string fz0, Value.slice D1 fx1.length d1, Value.bool fz2, Value.slice D3 fx3.length d3] 30)).heap.size := by simp
    clear O2 V1 V0 FF
    go_upto_region 2 with fail
    generalize w1.alloc (Obj.cells #[Value.string fz0, Value.slice D1 fx1.length d1, Value.bool fz2, Value.slice D3 fx3.length d3] 30) = w2 at *
    have r3 : w2.cell? ⟨w.heap.size + 1, 3, none⟩ = some (.slice A3 x3.length c3) := V2.out.cell 3 _ rfl
    by_cases hn0 : n < 0
    · have hd : decide (n < 0) = true := decide_eq_true hn0
      have HR := Lib.hid (show scopeM fs z0 x1 x3 n = [] by rw [HS.out]; exact if_neg (by omega))
      have FIN := Lib.hid (gaveS_nil B2.out)
      go_wp2
      go_ret
      rw [HR.out]
      exact FIN.out
    · have hd : decide (n < 0) = false := decide_eq_false hn0
      obtain ⟨k, rfl⟩ : ∃ k : Nat, n = (k : Int) := ⟨n.toNat, by omega⟩
      by_cases hn1 : k ≤ x3.length
      · have hd1 : decide ((k : Int) > (x3.length : Int)) = false := decide_eq_false (by omega)
        have HS2 := Lib.hid (show scopeM fs z0 x1 x3 (k : Int) = fx1 ++ nmP x1 ++ nmC (x3.take k) by rw [HS.out]; exact if_pos ⟨by omega, by omega⟩)
        have hk3 : (k : Int) ≤ (x3.length : Int) := by omega
        have hk9 : k ≤ 100000000 := by omega
        have hcc : (k : Int) ≤ (c3 : Int) := by
          have := (ArgS.cap HC.out).2
          omega
        clear HS hn0
        go_wp2
        go_loopw [9, 37] (fun v i wr => ∃ (j : Nat) (done : List ByteArray), j ≤ k ∧ i = .int .i64 j ∧ Hid (done = nmC (x3.take j)) ∧ Names10 w2 v done wr) (fun _ i _ => k - (intOf i).toNat)
        case atStart => exact ⟨0, [], Nat.zero_le _, rfl, Lib.hid rfl, World.ownsRow_nil w2 _ _ _, Below.refl _ _⟩
        case round =>
          obtain ⟨j, done, hj, rfl, hdone, hN⟩ := hrel
          have HD := Lib.hid hdone.out
          have HN := Lib.hid hN
          have hdl : done.length ≤ 100000000 := by
            rw [HD.out, nmC, List.length_map, List.length_take]
            omega
          clear hN hdone
          by_cases hlt : j < k
          · have hlt3 : j < x3.length := by omega
            have bw : Below w.heap.size w wr := B2.out.trans (HN.out.2.mono B2.out.size)
            obtain ⟨b, o, G, cg, rfl, hbb, g0, g1, g2, t2⟩ := (HC.out.below bw).call_at hlt3
            have HST := Lib.hid (show nmC (x3.take (j + 1)) = nmC (x3.take j) ++ [x3[j].1] by rw [take_snoc hlt3, nmC_snoc])
            clear t2 bw
            generalize x3[j] = x at *
            obtain ⟨zb, zf, xa⟩ := x
            simp only at g0 g1 g2
            have hi0 : (0 : Int) ≤ (j : Int) := by omega
            have hi1 : (j : Int) < (k : Int) := by omega
            have HDD := Lib.hid (show Below wr.heap.size wr (wr.alloc (Obj.cells #[Value.string zb, Value.string zf, Value.slice G xa.length cg] 86)) from (Below.refl _ _).alloc (Nat.le_refl _) _)
            have HF := Lib.hid (show done ++ [zb] = nmC (x3.take (j + 1)) by rw [HST.out, HD.out])
            have hown := HN.out.1
            have RN := Lib.hid (show Row 0 ((wr.alloc (Obj.cells #[Value.string zb, Value.string zf, Value.slice G xa.length cg] 86)).alloc (Obj.cells #[Value.string zb] 9)).heap.size ((wr.alloc (Obj.cells #[Value.string zb, Value.string zf, Value.slice G xa.length cg] 86)).alloc (Obj.cells #[Value.string zb] 9)) (some ⟨wr.heap.size + 1, 0, none⟩) [.string zb] from by have h9 := row_new (heap_alloc_new (wr.alloc (Obj.cells #[Value.string zb, Value.string zf, Value.slice G xa.length cg] 86)) (Obj.cells #[Value.string zb] 9)); simp only [World.size_alloc] at h9 ⊢; exact h9)
            go_wp2_with (at_builtin; (refine wpList_append_rowW rfl _ _ _ rfl 9 i0 (.string ByteArray.empty) 1 16 w2.heap.size Try.underlying27 hi hz0 hz1 hz2 rfl (by decide) _ done.length (done.map Value.string) rfl ((hown.alloc _).alloc _) _ 1 _ [.string zb] rfl rfl RN.out (by simp [Value.oneCell']) (by unfold maxLen; omega) (by omega) (by have := HN.out.2.size; simp; omega) ?_); intro v5 w5 hown5 hgrow hwh)
            have BB : Below w2.heap.size w2 w5 := ((HN.out.2.trans (HDD.out.mono HN.out.2.size)).alloc (by have := HN.out.2.size; simp; omega) (Obj.cells #[Value.string zb] 9)).grown hgrow (by have := HN.out.2.size; simp; omega) (fun g e => (hown.lt g e).1)
            have NN := Lib.hid (show Names10 w2 v5 (done ++ [zb]) w5 from ⟨by simpa using hown5, BB⟩)
            clear hown5 hgrow hwh hown BB
            go_wp2
            go_roundw
            case rel => exact ⟨_, _, _, ⟨j + 1, by omega, rfl, done ++ [zb], HF, NN.out⟩, rfl, rfl, by go_num⟩
            case measure => simp [intOf]; omega
          · obtain rfl : j = k := by omega
            obtain ⟨N, cn, hv, oN, _⟩ := gave_own HN.out.1 HN.out.2
            injection hv with hv
            subst hv
            have BW := Lib.hid (B2.out.trans (HN.out.2.mono B2.out.size))
            have LW := L2.out.below HN.out.2
            have l0 : wr.cell? ⟨w1.heap.size, 0, none⟩ = some (.string fz0) := LW.cell 0 _ rfl
            have l1 : wr.cell? ⟨w1.heap.size, 1, none⟩ = some (.slice D1 fx1.length d1) := LW.cell 1 _ rfl
            have l2 : wr.cell? ⟨w1.heap.size, 2, none⟩ = some (.bool fz2) := LW.cell 2 _ rfl
            have l3 : wr.cell? ⟨w1.heap.size, 3, none⟩ = some (.slice D3 fx3.length d3) := LW.cell 3 _ rfl
            have q1 : wr.cell? ⟨w.heap.size + 1, 1, none⟩ = some (.slice A1 x1.length c1) := (V2.out.below HN.out.2).cell 1 _ rfl
            have OP := Lib.hid (opening fz0 D1 d1 fx1 fz2 D3 d3 fx3 A1 c1 x1 wr (arg_fn (O3.out.below HN.out.2)).1 (HP.out.below BW.out) hfx hl1)
            have hnl := nmP_len x1
            have WN := Lib.hid (fun (sv : Value) (W : World) (hb : Below wr.heap.size wr W) (hs : Scoped W sv (fx1 ++ nmP x1)) => withNames sv N cn (fx1 ++ nmP x1) done W hs (oN.arg.below hb) (by rw [List.length_append]; omega))
            have HR := Lib.hid (show fx1 ++ nmP x1 ++ done = scopeM fs z0 x1 x3 (j : Int) by rw [HS2.out, HD.out])
            clear LW oN
            go_wp2_with fail
            refine (Calls.mono OP.out) ?_
            rintro e w3 ⟨sv, rfl, hS, b3⟩
            have WN1 := Lib.hid (WN.out sv w3 b3 hS)
            have B3 := Lib.hid (below_step BW.out b3)
            obtain ⟨F9, lb9, rfl, _, _⟩ := hS
            clear b3
            go_wp2_with fail
            refine (Calls.mono WN1.out) ?_
            rintro e w4 ⟨sv2, rfl, hS2, b4⟩
            have B4 := Lib.hid (below_step B3.out b4)
            obtain ⟨F, lb, rfl, eg, hcall⟩ := hS2
            have HCL := Lib.hid (hcall w4 (Below.refl _ _))
            clear b4 hcall
            go_wp2_with (go_at_fn F; refine (Calls.mono HCL.out) ?_; rintro e w5 ⟨v5, rfl, ho5, b5⟩)
            have FIN := Lib.hid (gave_own (w := w) (own_base ho5 B4.out.size) (below_step B4.out b5))
            clear ho5 b5
            go_wp2
            go_ret
            rw [← HR.out]
            exact FIN.out
      · have hd1 : decide ((k : Int) > (x3.length : Int)) = true := decide_eq_true (by omega)
        have HR := Lib.hid (show scopeM fs z0 x1 x3 (k : Int) = [] by rw [HS.out]; exact if_neg (by omega))
        have FIN := Lib.hid (gaveS_nil B2.out)
        go_wp2
        go_ret
        rw [HR.out]
        exact FIN.out
end ProgI
end Go.Proofs.Ytaaceggedjcbpaa
