import Derived.Test.YtgpjgjjadhmkhaaGreatRunMath
import Derived.Test.YtgpjgjjadhmkhaaGreatValS
import Derived.Test.YtgpjgjjadhmkhaaGreatPgmPrgS
import Derived.Test.YtgpjgjjadhmkhaaGreatPgmFindT
import Derived.Deep.RegionHeld3
/-
  Runs: which function may be called, of the program (made by tools/s12f.py).
-/
namespace Go.Proofs.YtgpjgjjadhmkhaaGreat
open Go.RowKit
namespace RunI
open RowK Mem ProgM ProgI ValM RunM
/-- Behind stores into variables of the call: the zero function. -/
theorem own_zero_mod {w wr u : World} (hb : Below w.heap.size w wr) (hm : Mod w.heap.size (w.heap.size + 2) wr u) : OwnR fn w.heap.size u.heap.size u [.string ByteArray.empty, .slice none 0 0, .bool false, .slice none 0 0] zeroF ∧ Below w.heap.size w u := by
  have hs := hm.size
  have h5 := hb.size
  exact ⟨own_zero (by omega), below_mod hb hm (Nat.le_refl _) hb.size⟩
set_option maxHeartbeats 4000000 in
set_option maxRecDepth 100000 in
theorem forArgs (A B : Option Addr) (c d : Nat) (fs : List FunctionT) (rs : List RuleT) (nm : ByteArray) (C : Option Addr) (e0 : Nat) (vs : List ValueT) (w : World) (hA : ArgR prg w [.slice A fs.length c, .slice B rs.length d] (fs, rs)) (hl : szProgramU (fs, rs) ≤ 9000000) (hV : ArgS valu w C vs.length e0 vs) (hvl : vs.length + szs szValueU vs ≤ 9000000) :
    Calls Tryz.prog 38 #[.agg #[.slice A fs.length c, .slice B rs.length d], .string nm, .slice C vs.length e0] w (GaveFnO w (forM fs rs nm vs)) := by
  have b0 : Below w.heap.size w ((w.alloc (Obj.cells #[Value.slice A fs.length c, Value.slice B rs.length d] 27)).alloc (Obj.cells #[Value.string ByteArray.empty, Value.slice none 0 0, Value.bool false, Value.slice none 0 0] 73)) := ((Below.refl _ _).alloc (Nat.le_refl _) _).alloc (by simp) _
  have B0 := Lib.hid b0
  have V0 := (Lvar.new w #[Value.slice A fs.length c, Value.slice B rs.length d] 27).alloc (Obj.cells #[Value.string ByteArray.empty, Value.slice none 0 0, Value.bool false, Value.slice none 0 0] 73)
  have Z0 := Lvar.new (w.alloc (Obj.cells #[Value.slice A fs.length c, Value.slice B rs.length d] 27)) #[Value.string ByteArray.empty, Value.slice none 0 0, Value.bool false, Value.slice none 0 0] 73
  simp only [World.size_alloc] at Z0
  have V0 := Lib.hid V0
  have Z0 := Lib.hid Z0
  have VP := Lib.hid (ProgI.progA (hA.below b0) hl)
  have hff : fs.length + szs szFunctionU fs ≤ 9000000 := by simp only [szProgramU] at hl; omega
  have FF := Lib.hid (fun W (h : Below w.heap.size w W) => ProgI.find A B rs.length c d fs nm W ((arg_prg hA).1.below h) (by omega))
  have HFS := Lib.hid (find_small (nm := nm) hff)
  have HV := Lib.hid hV
  have HVL := Lib.hid hvl
  have hxl : vs.length ≤ 9000000 := by omega
  clear b0 hA hl hV hvl hff
  cases hP : progV fs rs with
  | false =>
    rw [hP] at VP
    go_enter Tryz.func38, Tryz.ntmps38
    go_wp2_with fail
    refine (Calls.mono VP.out) ?_
    rintro e w1 ⟨rfl, b1⟩
    have B1 := Lib.hid (below_step B0.out b1)
    have Z1 := Lib.hid (Z0.out.below b1)
    clear b1 V0
    have HR := Lib.hid (show forM fs rs nm vs = none from for_bad hP)
    have ZZ := Z1.out
    have cz0 := ZZ.cell 0 _ rfl
    have cz1 := ZZ.cell 1 _ rfl
    have cz2 := ZZ.cell 2 _ rfl
    have cz3 := ZZ.cell 3 _ rfl
    have ycz0 := ZZ.frozen 0
    have ycz1 := ZZ.frozen 1
    have ycz2 := ZZ.frozen 2
    have ycz3 := ZZ.frozen 3
    have ZZ := Lib.hid ZZ
    have hbz := B1.out.size
    go_wp2
    have VC := (((ZZ.out.set 0 (Value.string ByteArray.empty)).set 1 (Value.slice none 0 0)).set 2 (Value.bool false)).set 3 (Value.slice none 0 0)
    obtain ⟨i9, hi9, _, hs8, _⟩ := info_parts infoFunction
    refine bodyPost_ret (results_row2 rfl _ _ (w.heap.size + 1) #[.string ByteArray.empty, .slice none 0 0, .bool false, .slice none 0 0] rfl rfl VC Tryz.underlying73 rfl (by rw [hi9, Option.map_some, hs8]; rfl)) rfl ?_
    rw [HR.out]
    refine ⟨none, 0, none, 0, rfl, own_zero_mod B1.out ?_⟩
    repeat (first | with_reducible exact Mod.refl _ _ _ | refine Mod.trans ?_ (Mod.set _ (by first | omega | (simp; done) | (simp; omega)) (by first | omega | (simp; done) | (simp; omega)) _) | refine Mod.trans ?_ (Mod.alloc _ _ _ (by first | omega | (simp; omega)) (by first | omega | (simp; omega))))
  | true =>
    rw [hP] at VP
    go_enter Tryz.func38, Tryz.ntmps38
    go_wp2_with fail
    refine (Calls.mono VP.out) ?_
    rintro e w1 ⟨rfl, b1⟩
    have B1 := Lib.hid (below_step B0.out b1)
    have Z1 := Lib.hid (Z0.out.below b1)
    have HW1 := Lib.hid (show w.heap.size + 2 ≤ w1.heap.size by have := b1.size; simp only [World.size_alloc] at this; omega)
    have V1 := V0.out.below b1
    have cv0 := V1.cell 0 _ rfl
    have cv1 := V1.cell 1 _ rfl
    clear b1 V1
    go_wp2_with fail
    refine (Calls.mono (FF.out _ B1.out)) ?_
    rintro e w2 ⟨D1, d1, D3, d3, rfl, o1, b2⟩
    have B2 := Lib.hid (below_step B1.out b2)
    have Z2 := Lib.hid (Z1.out.below b2)
    have hb12 := B1.out.size
    have hb22 := b2.size
    have O1 := Lib.hid o1
    clear b2 o1 cv0 cv1
    cases hF : findF fs nm with
    | none =>
      have B3 := Lib.hid (B2.out.alloc B2.out.size (Obj.cells #[Value.string ByteArray.empty, Value.slice D1 0 d1, Value.bool false, Value.slice D3 0 d3] 73))
      have Z3 := Lib.hid (Z2.out.alloc (Obj.cells #[Value.string ByteArray.empty, Value.slice D1 0 d1, Value.bool false, Value.slice D3 0 d3] 73))
      simp only [Option.getD_none, Option.isSome_none, zeroF, List.length_nil]
      have HR := Lib.hid (show forM fs rs nm vs = none from for_none hF)
      have ZZ := Z3.out
      have cz0 := ZZ.cell 0 _ rfl
      have cz1 := ZZ.cell 1 _ rfl
      have cz2 := ZZ.cell 2 _ rfl
      have cz3 := ZZ.cell 3 _ rfl
      have ycz0 := ZZ.frozen 0
      have ycz1 := ZZ.frozen 1
      have ycz2 := ZZ.frozen 2
      have ycz3 := ZZ.frozen 3
      have ZZ := Lib.hid ZZ
      have hbz := B3.out.size
      go_wp2
      have VC := (((ZZ.out.set 0 (Value.string ByteArray.empty)).set 1 (Value.slice none 0 0)).set 2 (Value.bool false)).set 3 (Value.slice none 0 0)
      obtain ⟨i9, hi9, _, hs8, _⟩ := info_parts infoFunction
      refine bodyPost_ret (results_row2 rfl _ _ (w.heap.size + 1) #[.string ByteArray.empty, .slice none 0 0, .bool false, .slice none 0 0] rfl rfl VC Tryz.underlying73 rfl (by rw [hi9, Option.map_some, hs8]; rfl)) rfl ?_
      rw [HR.out]
      refine ⟨none, 0, none, 0, rfl, own_zero_mod B3.out ?_⟩
      repeat (first | with_reducible exact Mod.refl _ _ _ | refine Mod.trans ?_ (Mod.set _ (by first | omega | (simp; done) | (simp; omega)) (by first | omega | (simp; done) | (simp; omega)) _) | refine Mod.trans ?_ (Mod.alloc _ _ _ (by first | omega | (simp; omega)) (by first | omega | (simp; omega))))
    | some f =>
      obtain ⟨fz0, fx1, fz2, fx3⟩ := f
      have HFO := Lib.hid (for_some (vs := vs) hP hF)
      rw [hF] at O1 HFS
      have O1 := Lib.hid (show OwnR fn w1.heap.size w2.heap.size w2 [.string fz0, .slice D1 fx1.length d1, .bool fz2, .slice D3 fx3.length d3] (fz0, fx1, fz2, fx3) from O1.out)
      simp only [Option.getD_some, Option.isSome_some]
      have b3 : Below w2.heap.size w2 (w2.alloc (Obj.cells #[Value.string fz0, Value.slice D1 fx1.length d1, Value.bool fz2, Value.slice D3 fx3.length d3] 73)) := (Below.refl _ _).alloc (Nat.le_refl _) _
      have B3 := Lib.hid b3
      have F3 := Lib.hid (Lvar.new w2 #[Value.string fz0, Value.slice D1 fx1.length d1, Value.bool fz2, Value.slice D3 fx3.length d3] 73)
      have Z3 := Lib.hid (Z2.out.below b3)
      have BW := Lib.hid (B2.out.trans (b3.mono B2.out.size))
      have hfl : fx1.length + szs szStr fx1 ≤ 9000000 := by have := HFS.out; simp only [Option.getD_some, szFunctionU] at this; omega
      have HFL := Lib.hid hfl
      have hfll : fx1.length ≤ 9000000 := by omega
      have cf1 := F3.out.cell 1 _ rfl
      clear b3 hfl FF VP
      by_cases hlen : vs.length = fx1.length
      · have hne : ((vs.length : Int) != (fx1.length : Int)) = false := by simp [hlen]
        have HLEN := Lib.hid hlen
        have HFO := Lib.hid (show forM fs rs nm vs = if kindsV vs fx1 then some (fz0, fx1, fz2, fx3) else none by rw [HFO.out]; show (if argsOk fx1 vs then _ else _) = _; rw [ok_kinds hlen])
        obtain ⟨R, hR⟩ : ∃ R, R = kindsV vs fx1 := ⟨_, rfl⟩
        rw [← hR] at HFO
        have HRR := Lib.hid hR
        have P1 := Lib.hid (show ArgS Rep.str w2 D1 fx1.length d1 fx1 by obtain ⟨q, fp, h⟩ := O1.out.arg; obtain ⟨f1, f3, _, h1, _⟩ := fn_parts h; exact ⟨q, f1, h1⟩)
        clear hR hlen
        go_wp2
        go_loopw [35] (fun i wr => ∃ k : Nat, k ≤ vs.length ∧ i = .int .i64 k ∧ Hid (kindsV (vs.drop k) (fx1.drop k) = R) ∧ Below w2.heap.size w2 wr ∧ Lvar wr w2.heap.size #[Value.string fz0, Value.slice D1 fx1.length d1, Value.bool fz2, Value.slice D3 fx3.length d3]) (fun i _ => vs.length - (intOf i).toNat)
        case atStart => exact ⟨0, Nat.zero_le _, rfl, Lib.hid HRR.out.symm, B3.out, F3.out⟩
        case round =>
          obtain ⟨k, hk, rfl, hall, hb, hf⟩ := hrel
          have HAL := Lib.hid hall.out
          have HB := Lib.hid hb
          have HF := Lib.hid hf
          have ZR := Lib.hid (Z2.out.below hb)
          have HBW := Lib.hid (B2.out.trans (hb.mono B2.out.size))
          have hbs := hb.size
          have hzl := ZR.out.lt
          clear hall hb hf B3 F3 Z3 cf1
          by_cases hlt : k < vs.length
          · have hlt2 : k < fx1.length := by have := HLEN.out; omega
            obtain ⟨b, o, A2, c2, rfl, hbb, g0, g1, g2, r2⟩ := (HV.out.below HBW.out).valu_at hlt
            obtain ⟨b7, o7, rfl, hbb7, g7⟩ := str_at10 (P1.out.below HB.out) hlt2
            have HST := Lib.hid (kinds_step hlt hlt2)
            have hs9 : vs[k].2.2.length ≤ 1000000000 := by
              have := HVL.out
              have := szs_mem (sz := szValueU) (List.getElem_mem hlt)
              simp only [szValueU] at this
              omega
            have hs7 : fx1[k].size ≤ maxLen := by
              have := HFL.out
              have : fx1[k].size ≤ szs szStr fx1 := szs_mem (sz := szStr) (List.getElem_mem hlt2)
              unfold maxLen; omega
            generalize vs[k] = x at *
            generalize fx1[k] = p at *
            obtain ⟨z0, z1, x2⟩ := x
            simp only at g0 g1 g2 r2 HST hs9
            have hi0 : (0 : Int) ≤ (k : Int) := by omega
            have hi1 : (k : Int) < (vs.length : Int) := by omega
            have hi2 : (k : Int) < (fx1.length : Int) := by omega
            have hd : Below wr.heap.size wr (wr.alloc (Obj.cells #[Value.bool z0, Value.int .i64 z1, Value.slice A2 x2.length c2] 33)) := (Below.refl _ _).alloc (Nat.le_refl _) _
            have HD := Lib.hid hd
            have VX := Lvar.new wr #[Value.bool z0, Value.int .i64 z1, Value.slice A2 x2.length c2] 33
            have FX := HF.out.alloc (Obj.cells #[Value.bool z0, Value.int .i64 z1, Value.slice A2 x2.length c2] 33)
            have IV := Lib.hid (fun W (h : Below wr.heap.size wr W) => ValI.valid z0 z1 A2 c2 x2 W (r2.below h) hs9)
            have IL := Lib.hid (fun W => NameS.implList p W hs7)
            have g7' := hd.cell (p := ⟨b7, o7 + k, none⟩) hbb7
            rw [g7] at g7'
            clear r2 g7 hs9 hs7 hd
            have cx0 := VX.cell 0 _ rfl
            have cx1 := VX.cell 1 _ rfl
            have cx2 := VX.cell 2 _ rfl
            have cf1 := FX.cell 1 _ rfl
            generalize valV z0 z1 x2 = t at *
            generalize NameM.listName p = l at *
            have KS := Lib.hid (fun W (h : Below (wr.alloc (Obj.cells #[Value.bool z0, Value.int .i64 z1, Value.slice A2 x2.length c2] 33)).heap.size (wr.alloc (Obj.cells #[Value.bool z0, Value.int .i64 z1, Value.slice A2 x2.length c2] 33)) W) => (show W.cell? ⟨wr.heap.size, 0, none⟩ = some (.bool z0) ∧ W.cell? ⟨wr.heap.size, 1, none⟩ = some (.int .i64 z1) ∧ W.cell? ⟨wr.heap.size, 2, none⟩ = some (.slice A2 x2.length c2) ∧ W.cell? ⟨w2.heap.size, 1, none⟩ = some (.slice (some ⟨b7, o7, none⟩) fx1.length d1) ∧ W.cell? ⟨b7, o7 + k, none⟩ = some (.string p) from ⟨(VX.below h).cell 0 _ rfl, (VX.below h).cell 1 _ rfl, (VX.below h).cell 2 _ rfl, (FX.below h).cell 1 _ rfl, by rw [h.cell (p := ⟨b7, o7 + k, none⟩) (by simp; omega)]; exact g7'⟩))
            clear VX FX
            skip
            cases t with
            | false =>
              have HN := Lib.hid (show forM fs rs nm vs = none by rw [HFO.out, ← HAL.out, HST.out]; rfl)
              have BD := Lib.hid (show Below wr.heap.size wr (wr.alloc (Obj.cells #[Value.bool z0, Value.int .i64 z1, Value.slice A2 x2.length c2] 33)).drew from HD.out.drew)
              go_upto_region 9 with fail
              refine wp_region_held_drew (S := (fun w' => w'.cell? ⟨wr.heap.size, 0, none⟩ = some (.bool z0) ∧ w'.cell? ⟨wr.heap.size, 1, none⟩ = some (.int .i64 z1) ∧ w'.cell? ⟨wr.heap.size, 2, none⟩ = some (.slice A2 x2.length c2) ∧ w'.cell? ⟨w2.heap.size, 1, none⟩ = some (.slice (some ⟨b7, o7, none⟩) fx1.length d1) ∧ w'.cell? ⟨b7, o7 + k, none⟩ = some (.string p))) (by kernel_rfl) ?_ (fun hHeld => ?_)
              · (try dsimp only); exact KS.out _ (Below.refl _ _).drew
              refine wpAnyH_take (i := 0) (oi := { dst := some 40, op := Op.load 33 (Operand.tmp 11), type := 33, pos := "l12_run.go:77", after := #[], guard := none }) (v := ?v1_0) rfl (by kernel_rfl) (by kernel_rfl) (by kernel_rfl) (fun _ _ _ h => h) (Or.inl ⟨by rfl, ?hy1_0⟩) (by assumption) ?r1_0
              case hy1_0 => (intro w hSw; (try dsimp only at hSw); go_simp; try (with_reducible rfl))
              (try simp only [Act.put, List.setIfInBounds_toArray, List.set_cons_zero, List.set_cons_succ])
              refine wpAnyH_ready (rs := [1]) (by kernel_rfl) (by simp) ?_
              refine AllReadyH.cons (o := { dst := some 41, op := Op.call { callee := Callee.value (Operand.func 15), args := #[Operand.tmp 40], argTypes := #[33] }, type := 4, pos := "l12_run.go:77", after := #[{ on := 0, ground := Ground.data }], guard := none }) rfl (fun K hK => ?_) AllReadyH.nil
              go_simp
              go_at_call 15; (with_reducible refine (Calls.mono (IV.out _ BD.out)) ?_); rintro e w3 ⟨rfl, b3⟩; (have D3 := Lib.hid (show Below (wr.alloc (Obj.cells #[Value.bool z0, Value.int .i64 z1, Value.slice A2 x2.length c2] 33)).heap.size (wr.alloc (Obj.cells #[Value.bool z0, Value.int .i64 z1, Value.slice A2 x2.length c2] 33)) w3 from (Below.refl _ _).drew.trans b3)); clear b3
              refine hK.out _ _ ?_ (fun hHeld2 => ?_)
              · (try dsimp only); exact KS.out _ D3.out
              clear hK K
              (try simp only [Act.put, List.setIfInBounds_toArray, List.set_cons_zero, List.set_cons_succ])
              refine wpAnyH_take (i := 2) (oi := { dst := some 42, op := Op.unOp UnOp.not 4 (Operand.tmp 41), type := 4, pos := "l12_run.go:77", after := #[{ on := 1, ground := Ground.data }], guard := none }) (v := ?v1_2) rfl (by kernel_rfl) (by kernel_rfl) (by kernel_rfl) (fun _ _ _ h => h) (Or.inl ⟨by rfl, ?hy1_2⟩) (by assumption) ?r1_2
              case hy1_2 => (intro w hSw; (try dsimp only at hSw); go_simp; try (with_reducible rfl))
              (try simp only [Act.put, List.setIfInBounds_toArray, List.set_cons_zero, List.set_cons_succ])
              refine wpAnyH_take (i := 3) (oi := { dst := some 43, op := Op.move (Operand.tmp 42), type := 4, pos := "l12_run.go:77", after := #[{ on := 2, ground := Ground.data }, { on := 1, ground := Ground.chain }], guard := none }) (v := ?v1_3) rfl (by kernel_rfl) (by kernel_rfl) (by kernel_rfl) (fun _ _ _ h => h) (Or.inl ⟨by rfl, ?hy1_3⟩) (by assumption) ?r1_3
              case hy1_3 => (intro w hSw; (try dsimp only at hSw); go_simp; try (with_reducible rfl))
              (try simp only [Act.put, List.setIfInBounds_toArray, List.set_cons_zero, List.set_cons_succ])
              refine wpAnyH_take (i := 4) (oi := { dst := some 44, op := Op.fieldAddr 33 (Operand.tmp 11) 0, type := 0, pos := "l12_run.go:77", after := #[{ on := 3, ground := Ground.guard }], guard := some (3, false) }) (v := undef) rfl (by kernel_rfl) (by kernel_rfl) (by kernel_rfl) (fun _ _ _ h => h) (Or.inr ⟨by rfl, rfl⟩) (by assumption) ?_
              (try simp only [Act.put, List.setIfInBounds_toArray, List.set_cons_zero, List.set_cons_succ])
              refine wpAnyH_take (i := 5) (oi := { dst := some 45, op := Op.load 4 (Operand.tmp 44), type := 4, pos := "l12_run.go:77", after := #[{ on := 4, ground := Ground.data }, { on := 3, ground := Ground.guard }], guard := some (3, false) }) (v := undef) rfl (by kernel_rfl) (by kernel_rfl) (by kernel_rfl) (fun _ _ _ h => h) (Or.inr ⟨by rfl, rfl⟩) (by assumption) ?_
              (try simp only [Act.put, List.setIfInBounds_toArray, List.set_cons_zero, List.set_cons_succ])
              refine wpAnyH_take (i := 6) (oi := { dst := some 46, op := Op.fieldAddr 73 (Operand.tmp 8) 1, type := 0, pos := "l12_run.go:77", after := #[{ on := 3, ground := Ground.guard }], guard := some (3, false) }) (v := undef) rfl (by kernel_rfl) (by kernel_rfl) (by kernel_rfl) (fun _ _ _ h => h) (Or.inr ⟨by rfl, rfl⟩) (by assumption) ?_
              (try simp only [Act.put, List.setIfInBounds_toArray, List.set_cons_zero, List.set_cons_succ])
              refine wpAnyH_take (i := 7) (oi := { dst := some 47, op := Op.load 71 (Operand.tmp 46), type := 71, pos := "l12_run.go:77", after := #[{ on := 6, ground := Ground.data }, { on := 3, ground := Ground.guard }], guard := some (3, false) }) (v := undef) rfl (by kernel_rfl) (by kernel_rfl) (by kernel_rfl) (fun _ _ _ h => h) (Or.inr ⟨by rfl, rfl⟩) (by assumption) ?_
              (try simp only [Act.put, List.setIfInBounds_toArray, List.set_cons_zero, List.set_cons_succ])
              refine wpAnyH_take (i := 8) (oi := { dst := some 48, op := Op.move (Operand.tmp 10), type := 3, pos := "l12_run.go:77", after := #[{ on := 3, ground := Ground.guard }], guard := some (3, false) }) (v := undef) rfl (by kernel_rfl) (by kernel_rfl) (by kernel_rfl) (fun _ _ _ h => h) (Or.inr ⟨by rfl, rfl⟩) (by assumption) ?_
              (try simp only [Act.put, List.setIfInBounds_toArray, List.set_cons_zero, List.set_cons_succ])
              refine wpAnyH_take (i := 9) (oi := { dst := some 49, op := Op.indexAddr 71 (Operand.tmp 47) (Operand.tmp 48), type := 0, pos := "l12_run.go:77", after := #[{ on := 7, ground := Ground.data }, { on := 8, ground := Ground.data }, { on := 3, ground := Ground.guard }], guard := some (3, false) }) (v := undef) rfl (by kernel_rfl) (by kernel_rfl) (by kernel_rfl) (fun _ _ _ h => h) (Or.inr ⟨by rfl, rfl⟩) (by assumption) ?_
              (try simp only [Act.put, List.setIfInBounds_toArray, List.set_cons_zero, List.set_cons_succ])
              refine wpAnyH_take (i := 10) (oi := { dst := some 50, op := Op.load 9 (Operand.tmp 49), type := 9, pos := "l12_run.go:77", after := #[{ on := 9, ground := Ground.data }, { on := 3, ground := Ground.guard }], guard := some (3, false) }) (v := undef) rfl (by kernel_rfl) (by kernel_rfl) (by kernel_rfl) (fun _ _ _ h => h) (Or.inr ⟨by rfl, rfl⟩) (by assumption) ?_
              (try simp only [Act.put, List.setIfInBounds_toArray, List.set_cons_zero, List.set_cons_succ])
              refine wpAnyH_take (i := 11) (oi := { dst := some 51, op := Op.call { callee := Callee.value (Operand.func 78), args := #[Operand.tmp 50], argTypes := #[9] }, type := 4, pos := "l12_run.go:77", after := #[{ on := 10, ground := Ground.data }, { on := 3, ground := Ground.chain }, { on := 3, ground := Ground.guard }], guard := some (3, false) }) (v := undef) rfl (by kernel_rfl) (by kernel_rfl) (by kernel_rfl) (fun _ _ _ h => h) (Or.inr ⟨by rfl, rfl⟩) (by assumption) ?_
              (try simp only [Act.put, List.setIfInBounds_toArray, List.set_cons_zero, List.set_cons_succ])
              refine wpAnyH_take (i := 12) (oi := { dst := some 52, op := Op.binOp BinOp.neq 4 (Operand.tmp 45) (Operand.tmp 51) 4, type := 4, pos := "l12_run.go:77", after := #[{ on := 5, ground := Ground.data }, { on := 11, ground := Ground.data }, { on := 3, ground := Ground.guard }], guard := some (3, false) }) (v := undef) rfl (by kernel_rfl) (by kernel_rfl) (by kernel_rfl) (fun _ _ _ h => h) (Or.inr ⟨by rfl, rfl⟩) (by assumption) ?_
              (try simp only [Act.put, List.setIfInBounds_toArray, List.set_cons_zero, List.set_cons_succ])
              refine wpAnyH_take (i := 13) (oi := { dst := some 53, op := Op.pick (Operand.tmp 43) (Operand.const (Value.bool true)) (Operand.tmp 52), type := 4, pos := "l12_run.go:77", after := #[{ on := 3, ground := Ground.data }, { on := 12, ground := Ground.data }], guard := none }) (v := ?v1_13) rfl (by kernel_rfl) (by kernel_rfl) (by kernel_rfl) (fun _ _ _ h => h) (Or.inl ⟨by rfl, ?hy1_13⟩) (by assumption) ?r1_13
              case hy1_13 => (intro w hSw; (try dsimp only at hSw); go_simp; try (with_reducible rfl))
              (try simp only [Act.put, List.setIfInBounds_toArray, List.set_cons_zero, List.set_cons_succ])
              refine wpAnyH_done (by kernel_rfl) ?_ _
              have BF := Lib.hid (HBW.out.trans ((HD.out.trans (D3.out.mono HD.out.size)).mono HBW.out.size))
              have ZF := Lib.hid ((ZR.out.alloc (Obj.cells #[Value.bool z0, Value.int .i64 z1, Value.slice A2 x2.length c2] 33)).below D3.out)
              have HR := Lib.hid (show forM fs rs nm vs = none from HN.out)
              have ZZ := ZF.out
              have cz0 := ZZ.cell 0 _ rfl
              have cz1 := ZZ.cell 1 _ rfl
              have cz2 := ZZ.cell 2 _ rfl
              have cz3 := ZZ.cell 3 _ rfl
              have ycz0 := ZZ.frozen 0
              have ycz1 := ZZ.frozen 1
              have ycz2 := ZZ.frozen 2
              have ycz3 := ZZ.frozen 3
              have ZZ := Lib.hid ZZ
              have hbz := BF.out.size
              go_wp2
              have VC := (((ZZ.out.set 0 (Value.string ByteArray.empty)).set 1 (Value.slice none 0 0)).set 2 (Value.bool false)).set 3 (Value.slice none 0 0)
              obtain ⟨i9, hi9, _, hs8, _⟩ := info_parts infoFunction
              refine bodyPost_ret (results_row2 rfl _ _ (w.heap.size + 1) #[.string ByteArray.empty, .slice none 0 0, .bool false, .slice none 0 0] rfl rfl VC Tryz.underlying73 rfl (by rw [hi9, Option.map_some, hs8]; rfl)) rfl ?_
              rw [HR.out]
              refine ⟨none, 0, none, 0, rfl, own_zero_mod BF.out ?_⟩
              repeat (first | with_reducible exact Mod.refl _ _ _ | refine Mod.trans ?_ (Mod.set _ (by first | omega | (simp; done) | (simp; omega)) (by first | omega | (simp; done) | (simp; omega)) _) | refine Mod.trans ?_ (Mod.alloc _ _ _ (by first | omega | (simp; omega)) (by first | omega | (simp; omega))))
            | true =>
              cases hzl9 : (z0 == l) with
              | false =>
                have HN := Lib.hid (show forM fs rs nm vs = none by rw [HFO.out, ← HAL.out, HST.out, hzl9]; rfl)
                have hzn : (z0 != l) = true := by simp only [bne, hzl9]; rfl
                have BD := Lib.hid (show Below wr.heap.size wr (wr.alloc (Obj.cells #[Value.bool z0, Value.int .i64 z1, Value.slice A2 x2.length c2] 33)).drew from HD.out.drew)
                go_upto_region 9 with fail
                refine wp_region_held_drew (S := (fun w' => w'.cell? ⟨wr.heap.size, 0, none⟩ = some (.bool z0) ∧ w'.cell? ⟨wr.heap.size, 1, none⟩ = some (.int .i64 z1) ∧ w'.cell? ⟨wr.heap.size, 2, none⟩ = some (.slice A2 x2.length c2) ∧ w'.cell? ⟨w2.heap.size, 1, none⟩ = some (.slice (some ⟨b7, o7, none⟩) fx1.length d1) ∧ w'.cell? ⟨b7, o7 + k, none⟩ = some (.string p))) (by kernel_rfl) ?_ (fun hHeld => ?_)
                · (try dsimp only); exact KS.out _ (Below.refl _ _).drew
                refine wpAnyH_take (i := 0) (oi := { dst := some 40, op := Op.load 33 (Operand.tmp 11), type := 33, pos := "l12_run.go:77", after := #[], guard := none }) (v := ?v2_0) rfl (by kernel_rfl) (by kernel_rfl) (by kernel_rfl) (fun _ _ _ h => h) (Or.inl ⟨by rfl, ?hy2_0⟩) (by assumption) ?r2_0
                case hy2_0 => (intro w hSw; (try dsimp only at hSw); go_simp; try (with_reducible rfl))
                (try simp only [Act.put, List.setIfInBounds_toArray, List.set_cons_zero, List.set_cons_succ])
                refine wpAnyH_ready (rs := [1]) (by kernel_rfl) (by simp) ?_
                refine AllReadyH.cons (o := { dst := some 41, op := Op.call { callee := Callee.value (Operand.func 15), args := #[Operand.tmp 40], argTypes := #[33] }, type := 4, pos := "l12_run.go:77", after := #[{ on := 0, ground := Ground.data }], guard := none }) rfl (fun K hK => ?_) AllReadyH.nil
                go_simp
                go_at_call 15; (with_reducible refine (Calls.mono (IV.out _ BD.out)) ?_); rintro e w3 ⟨rfl, b3⟩; (have D3 := Lib.hid (show Below (wr.alloc (Obj.cells #[Value.bool z0, Value.int .i64 z1, Value.slice A2 x2.length c2] 33)).heap.size (wr.alloc (Obj.cells #[Value.bool z0, Value.int .i64 z1, Value.slice A2 x2.length c2] 33)) w3 from (Below.refl _ _).drew.trans b3)); clear b3
                refine hK.out _ _ ?_ (fun hHeld2 => ?_)
                · (try dsimp only); exact KS.out _ D3.out
                clear hK K
                (try simp only [Act.put, List.setIfInBounds_toArray, List.set_cons_zero, List.set_cons_succ])
                refine wpAnyH_take (i := 2) (oi := { dst := some 42, op := Op.unOp UnOp.not 4 (Operand.tmp 41), type := 4, pos := "l12_run.go:77", after := #[{ on := 1, ground := Ground.data }], guard := none }) (v := ?v2_2) rfl (by kernel_rfl) (by kernel_rfl) (by kernel_rfl) (fun _ _ _ h => h) (Or.inl ⟨by rfl, ?hy2_2⟩) (by assumption) ?r2_2
                case hy2_2 => (intro w hSw; (try dsimp only at hSw); go_simp; try (with_reducible rfl))
                (try simp only [Act.put, List.setIfInBounds_toArray, List.set_cons_zero, List.set_cons_succ])
                refine wpAnyH_take (i := 3) (oi := { dst := some 43, op := Op.move (Operand.tmp 42), type := 4, pos := "l12_run.go:77", after := #[{ on := 2, ground := Ground.data }, { on := 1, ground := Ground.chain }], guard := none }) (v := ?v2_3) rfl (by kernel_rfl) (by kernel_rfl) (by kernel_rfl) (fun _ _ _ h => h) (Or.inl ⟨by rfl, ?hy2_3⟩) (by assumption) ?r2_3
                case hy2_3 => (intro w hSw; (try dsimp only at hSw); go_simp; try (with_reducible rfl))
                (try simp only [Act.put, List.setIfInBounds_toArray, List.set_cons_zero, List.set_cons_succ])
                refine wpAnyH_take (i := 4) (oi := { dst := some 44, op := Op.fieldAddr 33 (Operand.tmp 11) 0, type := 0, pos := "l12_run.go:77", after := #[{ on := 3, ground := Ground.guard }], guard := some (3, false) }) (v := ?v2_4) rfl (by kernel_rfl) (by kernel_rfl) (by kernel_rfl) (fun _ _ _ h => h) (Or.inl ⟨by rfl, ?hy2_4⟩) (by assumption) ?r2_4
                case hy2_4 => (intro w hSw; (try dsimp only at hSw); go_simp; try (with_reducible rfl))
                (try simp only [Act.put, List.setIfInBounds_toArray, List.set_cons_zero, List.set_cons_succ])
                refine wpAnyH_take (i := 5) (oi := { dst := some 45, op := Op.load 4 (Operand.tmp 44), type := 4, pos := "l12_run.go:77", after := #[{ on := 4, ground := Ground.data }, { on := 3, ground := Ground.guard }], guard := some (3, false) }) (v := ?v2_5) rfl (by kernel_rfl) (by kernel_rfl) (by kernel_rfl) (fun _ _ _ h => h) (Or.inl ⟨by rfl, ?hy2_5⟩) (by assumption) ?r2_5
                case hy2_5 => (intro w hSw; (try dsimp only at hSw); go_simp; try (with_reducible rfl))
                (try simp only [Act.put, List.setIfInBounds_toArray, List.set_cons_zero, List.set_cons_succ])
                refine wpAnyH_take (i := 6) (oi := { dst := some 46, op := Op.fieldAddr 73 (Operand.tmp 8) 1, type := 0, pos := "l12_run.go:77", after := #[{ on := 3, ground := Ground.guard }], guard := some (3, false) }) (v := ?v2_6) rfl (by kernel_rfl) (by kernel_rfl) (by kernel_rfl) (fun _ _ _ h => h) (Or.inl ⟨by rfl, ?hy2_6⟩) (by assumption) ?r2_6
                case hy2_6 => (intro w hSw; (try dsimp only at hSw); go_simp; try (with_reducible rfl))
                (try simp only [Act.put, List.setIfInBounds_toArray, List.set_cons_zero, List.set_cons_succ])
                refine wpAnyH_take (i := 7) (oi := { dst := some 47, op := Op.load 71 (Operand.tmp 46), type := 71, pos := "l12_run.go:77", after := #[{ on := 6, ground := Ground.data }, { on := 3, ground := Ground.guard }], guard := some (3, false) }) (v := ?v2_7) rfl (by kernel_rfl) (by kernel_rfl) (by kernel_rfl) (fun _ _ _ h => h) (Or.inl ⟨by rfl, ?hy2_7⟩) (by assumption) ?r2_7
                case hy2_7 => (intro w hSw; (try dsimp only at hSw); go_simp; try (with_reducible rfl))
                (try simp only [Act.put, List.setIfInBounds_toArray, List.set_cons_zero, List.set_cons_succ])
                refine wpAnyH_take (i := 8) (oi := { dst := some 48, op := Op.move (Operand.tmp 10), type := 3, pos := "l12_run.go:77", after := #[{ on := 3, ground := Ground.guard }], guard := some (3, false) }) (v := ?v2_8) rfl (by kernel_rfl) (by kernel_rfl) (by kernel_rfl) (fun _ _ _ h => h) (Or.inl ⟨by rfl, ?hy2_8⟩) (by assumption) ?r2_8
                case hy2_8 => (intro w hSw; (try dsimp only at hSw); go_simp; try (with_reducible rfl))
                (try simp only [Act.put, List.setIfInBounds_toArray, List.set_cons_zero, List.set_cons_succ])
                refine wpAnyH_take (i := 9) (oi := { dst := some 49, op := Op.indexAddr 71 (Operand.tmp 47) (Operand.tmp 48), type := 0, pos := "l12_run.go:77", after := #[{ on := 7, ground := Ground.data }, { on := 8, ground := Ground.data }, { on := 3, ground := Ground.guard }], guard := some (3, false) }) (v := ?v2_9) rfl (by kernel_rfl) (by kernel_rfl) (by kernel_rfl) (fun _ _ _ h => h) (Or.inl ⟨by rfl, ?hy2_9⟩) (by assumption) ?r2_9
                case hy2_9 => (intro w hSw; (try dsimp only at hSw); go_simp; try (with_reducible rfl))
                (try simp only [Act.put, List.setIfInBounds_toArray, List.set_cons_zero, List.set_cons_succ])
                refine wpAnyH_take (i := 10) (oi := { dst := some 50, op := Op.load 9 (Operand.tmp 49), type := 9, pos := "l12_run.go:77", after := #[{ on := 9, ground := Ground.data }, { on := 3, ground := Ground.guard }], guard := some (3, false) }) (v := ?v2_10) rfl (by kernel_rfl) (by kernel_rfl) (by kernel_rfl) (fun _ _ _ h => h) (Or.inl ⟨by rfl, ?hy2_10⟩) (by assumption) ?r2_10
                case hy2_10 => (intro w hSw; (try dsimp only at hSw); go_simp; try (with_reducible rfl))
                (try simp only [Act.put, List.setIfInBounds_toArray, List.set_cons_zero, List.set_cons_succ])
                refine wpAnyH_ready (rs := [11]) (by kernel_rfl) (by simp) ?_
                refine AllReadyH.cons (o := { dst := some 51, op := Op.call { callee := Callee.value (Operand.func 78), args := #[Operand.tmp 50], argTypes := #[9] }, type := 4, pos := "l12_run.go:77", after := #[{ on := 10, ground := Ground.data }, { on := 3, ground := Ground.chain }, { on := 3, ground := Ground.guard }], guard := some (3, false) }) rfl (fun K hK => ?_) AllReadyH.nil
                go_simp
                go_at_call 78; (with_reducible refine (Calls.mono (IL.out _)) ?_); rintro e w4 ⟨rfl, b4⟩; (have D4 := Lib.hid (show Below (wr.alloc (Obj.cells #[Value.bool z0, Value.int .i64 z1, Value.slice A2 x2.length c2] 33)).heap.size (wr.alloc (Obj.cells #[Value.bool z0, Value.int .i64 z1, Value.slice A2 x2.length c2] 33)) w4 from below_step D3.out b4)); clear b4
                refine hK.out _ _ ?_ (fun hHeld2 => ?_)
                · (try dsimp only); exact KS.out _ D4.out
                clear hK K
                (try simp only [Act.put, List.setIfInBounds_toArray, List.set_cons_zero, List.set_cons_succ])
                refine wpAnyH_take (i := 12) (oi := { dst := some 52, op := Op.binOp BinOp.neq 4 (Operand.tmp 45) (Operand.tmp 51) 4, type := 4, pos := "l12_run.go:77", after := #[{ on := 5, ground := Ground.data }, { on := 11, ground := Ground.data }, { on := 3, ground := Ground.guard }], guard := some (3, false) }) (v := ?v2_12) rfl (by kernel_rfl) (by kernel_rfl) (by kernel_rfl) (fun _ _ _ h => h) (Or.inl ⟨by rfl, ?hy2_12⟩) (by assumption) ?r2_12
                case hy2_12 => (intro w hSw; (try dsimp only at hSw); go_simp; try (with_reducible rfl))
                (try simp only [Act.put, List.setIfInBounds_toArray, List.set_cons_zero, List.set_cons_succ])
                refine wpAnyH_take (i := 13) (oi := { dst := some 53, op := Op.pick (Operand.tmp 43) (Operand.const (Value.bool true)) (Operand.tmp 52), type := 4, pos := "l12_run.go:77", after := #[{ on := 3, ground := Ground.data }, { on := 12, ground := Ground.data }], guard := none }) (v := ?v2_13) rfl (by kernel_rfl) (by kernel_rfl) (by kernel_rfl) (fun _ _ _ h => h) (Or.inl ⟨by rfl, ?hy2_13⟩) (by assumption) ?r2_13
                case hy2_13 => (intro w hSw; (try dsimp only at hSw); go_simp; try (with_reducible rfl))
                (try simp only [Act.put, List.setIfInBounds_toArray, List.set_cons_zero, List.set_cons_succ])
                refine wpAnyH_done (by kernel_rfl) ?_ _
                have BF := Lib.hid (HBW.out.trans ((HD.out.trans (D4.out.mono HD.out.size)).mono HBW.out.size))
                have ZF := Lib.hid ((ZR.out.alloc (Obj.cells #[Value.bool z0, Value.int .i64 z1, Value.slice A2 x2.length c2] 33)).below D4.out)
                have HR := Lib.hid (show forM fs rs nm vs = none from HN.out)
                have ZZ := ZF.out
                have cz0 := ZZ.cell 0 _ rfl
                have cz1 := ZZ.cell 1 _ rfl
                have cz2 := ZZ.cell 2 _ rfl
                have cz3 := ZZ.cell 3 _ rfl
                have ycz0 := ZZ.frozen 0
                have ycz1 := ZZ.frozen 1
                have ycz2 := ZZ.frozen 2
                have ycz3 := ZZ.frozen 3
                have ZZ := Lib.hid ZZ
                have hbz := BF.out.size
                go_wp2
                have VC := (((ZZ.out.set 0 (Value.string ByteArray.empty)).set 1 (Value.slice none 0 0)).set 2 (Value.bool false)).set 3 (Value.slice none 0 0)
                obtain ⟨i9, hi9, _, hs8, _⟩ := info_parts infoFunction
                refine bodyPost_ret (results_row2 rfl _ _ (w.heap.size + 1) #[.string ByteArray.empty, .slice none 0 0, .bool false, .slice none 0 0] rfl rfl VC Tryz.underlying73 rfl (by rw [hi9, Option.map_some, hs8]; rfl)) rfl ?_
                rw [HR.out]
                refine ⟨none, 0, none, 0, rfl, own_zero_mod BF.out ?_⟩
                repeat (first | with_reducible exact Mod.refl _ _ _ | refine Mod.trans ?_ (Mod.set _ (by first | omega | (simp; done) | (simp; omega)) (by first | omega | (simp; done) | (simp; omega)) _) | refine Mod.trans ?_ (Mod.alloc _ _ _ (by first | omega | (simp; omega)) (by first | omega | (simp; omega))))
              | true =>
                have HY := Lib.hid (show kindsV (vs.drop (k + 1)) (fx1.drop (k + 1)) = R by rw [← HAL.out, HST.out, hzl9]; rfl)
                have hzn : (z0 != l) = false := by simp only [bne, hzl9]; rfl
                have BD := Lib.hid (show Below wr.heap.size wr (wr.alloc (Obj.cells #[Value.bool z0, Value.int .i64 z1, Value.slice A2 x2.length c2] 33)).drew from HD.out.drew)
                go_upto_region 9 with fail
                refine wp_region_held_drew (S := (fun w' => w'.cell? ⟨wr.heap.size, 0, none⟩ = some (.bool z0) ∧ w'.cell? ⟨wr.heap.size, 1, none⟩ = some (.int .i64 z1) ∧ w'.cell? ⟨wr.heap.size, 2, none⟩ = some (.slice A2 x2.length c2) ∧ w'.cell? ⟨w2.heap.size, 1, none⟩ = some (.slice (some ⟨b7, o7, none⟩) fx1.length d1) ∧ w'.cell? ⟨b7, o7 + k, none⟩ = some (.string p))) (by kernel_rfl) ?_ (fun hHeld => ?_)
                · (try dsimp only); exact KS.out _ (Below.refl _ _).drew
                refine wpAnyH_take (i := 0) (oi := { dst := some 40, op := Op.load 33 (Operand.tmp 11), type := 33, pos := "l12_run.go:77", after := #[], guard := none }) (v := ?v3_0) rfl (by kernel_rfl) (by kernel_rfl) (by kernel_rfl) (fun _ _ _ h => h) (Or.inl ⟨by rfl, ?hy3_0⟩) (by assumption) ?r3_0
                case hy3_0 => (intro w hSw; (try dsimp only at hSw); go_simp; try (with_reducible rfl))
                (try simp only [Act.put, List.setIfInBounds_toArray, List.set_cons_zero, List.set_cons_succ])
                refine wpAnyH_ready (rs := [1]) (by kernel_rfl) (by simp) ?_
                refine AllReadyH.cons (o := { dst := some 41, op := Op.call { callee := Callee.value (Operand.func 15), args := #[Operand.tmp 40], argTypes := #[33] }, type := 4, pos := "l12_run.go:77", after := #[{ on := 0, ground := Ground.data }], guard := none }) rfl (fun K hK => ?_) AllReadyH.nil
                go_simp
                go_at_call 15; (with_reducible refine (Calls.mono (IV.out _ BD.out)) ?_); rintro e w3 ⟨rfl, b3⟩; (have D3 := Lib.hid (show Below (wr.alloc (Obj.cells #[Value.bool z0, Value.int .i64 z1, Value.slice A2 x2.length c2] 33)).heap.size (wr.alloc (Obj.cells #[Value.bool z0, Value.int .i64 z1, Value.slice A2 x2.length c2] 33)) w3 from (Below.refl _ _).drew.trans b3)); clear b3
                refine hK.out _ _ ?_ (fun hHeld2 => ?_)
                · (try dsimp only); exact KS.out _ D3.out
                clear hK K
                (try simp only [Act.put, List.setIfInBounds_toArray, List.set_cons_zero, List.set_cons_succ])
                refine wpAnyH_take (i := 2) (oi := { dst := some 42, op := Op.unOp UnOp.not 4 (Operand.tmp 41), type := 4, pos := "l12_run.go:77", after := #[{ on := 1, ground := Ground.data }], guard := none }) (v := ?v3_2) rfl (by kernel_rfl) (by kernel_rfl) (by kernel_rfl) (fun _ _ _ h => h) (Or.inl ⟨by rfl, ?hy3_2⟩) (by assumption) ?r3_2
                case hy3_2 => (intro w hSw; (try dsimp only at hSw); go_simp; try (with_reducible rfl))
                (try simp only [Act.put, List.setIfInBounds_toArray, List.set_cons_zero, List.set_cons_succ])
                refine wpAnyH_take (i := 3) (oi := { dst := some 43, op := Op.move (Operand.tmp 42), type := 4, pos := "l12_run.go:77", after := #[{ on := 2, ground := Ground.data }, { on := 1, ground := Ground.chain }], guard := none }) (v := ?v3_3) rfl (by kernel_rfl) (by kernel_rfl) (by kernel_rfl) (fun _ _ _ h => h) (Or.inl ⟨by rfl, ?hy3_3⟩) (by assumption) ?r3_3
                case hy3_3 => (intro w hSw; (try dsimp only at hSw); go_simp; try (with_reducible rfl))
                (try simp only [Act.put, List.setIfInBounds_toArray, List.set_cons_zero, List.set_cons_succ])
                refine wpAnyH_take (i := 4) (oi := { dst := some 44, op := Op.fieldAddr 33 (Operand.tmp 11) 0, type := 0, pos := "l12_run.go:77", after := #[{ on := 3, ground := Ground.guard }], guard := some (3, false) }) (v := ?v3_4) rfl (by kernel_rfl) (by kernel_rfl) (by kernel_rfl) (fun _ _ _ h => h) (Or.inl ⟨by rfl, ?hy3_4⟩) (by assumption) ?r3_4
                case hy3_4 => (intro w hSw; (try dsimp only at hSw); go_simp; try (with_reducible rfl))
                (try simp only [Act.put, List.setIfInBounds_toArray, List.set_cons_zero, List.set_cons_succ])
                refine wpAnyH_take (i := 5) (oi := { dst := some 45, op := Op.load 4 (Operand.tmp 44), type := 4, pos := "l12_run.go:77", after := #[{ on := 4, ground := Ground.data }, { on := 3, ground := Ground.guard }], guard := some (3, false) }) (v := ?v3_5) rfl (by kernel_rfl) (by kernel_rfl) (by kernel_rfl) (fun _ _ _ h => h) (Or.inl ⟨by rfl, ?hy3_5⟩) (by assumption) ?r3_5
                case hy3_5 => (intro w hSw; (try dsimp only at hSw); go_simp; try (with_reducible rfl))
                (try simp only [Act.put, List.setIfInBounds_toArray, List.set_cons_zero, List.set_cons_succ])
                refine wpAnyH_take (i := 6) (oi := { dst := some 46, op := Op.fieldAddr 73 (Operand.tmp 8) 1, type := 0, pos := "l12_run.go:77", after := #[{ on := 3, ground := Ground.guard }], guard := some (3, false) }) (v := ?v3_6) rfl (by kernel_rfl) (by kernel_rfl) (by kernel_rfl) (fun _ _ _ h => h) (Or.inl ⟨by rfl, ?hy3_6⟩) (by assumption) ?r3_6
                case hy3_6 => (intro w hSw; (try dsimp only at hSw); go_simp; try (with_reducible rfl))
                (try simp only [Act.put, List.setIfInBounds_toArray, List.set_cons_zero, List.set_cons_succ])
                refine wpAnyH_take (i := 7) (oi := { dst := some 47, op := Op.load 71 (Operand.tmp 46), type := 71, pos := "l12_run.go:77", after := #[{ on := 6, ground := Ground.data }, { on := 3, ground := Ground.guard }], guard := some (3, false) }) (v := ?v3_7) rfl (by kernel_rfl) (by kernel_rfl) (by kernel_rfl) (fun _ _ _ h => h) (Or.inl ⟨by rfl, ?hy3_7⟩) (by assumption) ?r3_7
                case hy3_7 => (intro w hSw; (try dsimp only at hSw); go_simp; try (with_reducible rfl))
                (try simp only [Act.put, List.setIfInBounds_toArray, List.set_cons_zero, List.set_cons_succ])
                refine wpAnyH_take (i := 8) (oi := { dst := some 48, op := Op.move (Operand.tmp 10), type := 3, pos := "l12_run.go:77", after := #[{ on := 3, ground := Ground.guard }], guard := some (3, false) }) (v := ?v3_8) rfl (by kernel_rfl) (by kernel_rfl) (by kernel_rfl) (fun _ _ _ h => h) (Or.inl ⟨by rfl, ?hy3_8⟩) (by assumption) ?r3_8
                case hy3_8 => (intro w hSw; (try dsimp only at hSw); go_simp; try (with_reducible rfl))
                (try simp only [Act.put, List.setIfInBounds_toArray, List.set_cons_zero, List.set_cons_succ])
                refine wpAnyH_take (i := 9) (oi := { dst := some 49, op := Op.indexAddr 71 (Operand.tmp 47) (Operand.tmp 48), type := 0, pos := "l12_run.go:77", after := #[{ on := 7, ground := Ground.data }, { on := 8, ground := Ground.data }, { on := 3, ground := Ground.guard }], guard := some (3, false) }) (v := ?v3_9) rfl (by kernel_rfl) (by kernel_rfl) (by kernel_rfl) (fun _ _ _ h => h) (Or.inl ⟨by rfl, ?hy3_9⟩) (by assumption) ?r3_9
                case hy3_9 => (intro w hSw; (try dsimp only at hSw); go_simp; try (with_reducible rfl))
                (try simp only [Act.put, List.setIfInBounds_toArray, List.set_cons_zero, List.set_cons_succ])
                refine wpAnyH_take (i := 10) (oi := { dst := some 50, op := Op.load 9 (Operand.tmp 49), type := 9, pos := "l12_run.go:77", after := #[{ on := 9, ground := Ground.data }, { on := 3, ground := Ground.guard }], guard := some (3, false) }) (v := ?v3_10) rfl (by kernel_rfl) (by kernel_rfl) (by kernel_rfl) (fun _ _ _ h => h) (Or.inl ⟨by rfl, ?hy3_10⟩) (by assumption) ?r3_10
                case hy3_10 => (intro w hSw; (try dsimp only at hSw); go_simp; try (with_reducible rfl))
                (try simp only [Act.put, List.setIfInBounds_toArray, List.set_cons_zero, List.set_cons_succ])
                refine wpAnyH_ready (rs := [11]) (by kernel_rfl) (by simp) ?_
                refine AllReadyH.cons (o := { dst := some 51, op := Op.call { callee := Callee.value (Operand.func 78), args := #[Operand.tmp 50], argTypes := #[9] }, type := 4, pos := "l12_run.go:77", after := #[{ on := 10, ground := Ground.data }, { on := 3, ground := Ground.chain }, { on := 3, ground := Ground.guard }], guard := some (3, false) }) rfl (fun K hK => ?_) AllReadyH.nil
                go_simp
                go_at_call 78; (with_reducible refine (Calls.mono (IL.out _)) ?_); rintro e w4 ⟨rfl, b4⟩; (have D4 := Lib.hid (show Below (wr.alloc (Obj.cells #[Value.bool z0, Value.int .i64 z1, Value.slice A2 x2.length c2] 33)).heap.size (wr.alloc (Obj.cells #[Value.bool z0, Value.int .i64 z1, Value.slice A2 x2.length c2] 33)) w4 from below_step D3.out b4)); clear b4
                refine hK.out _ _ ?_ (fun hHeld2 => ?_)
                · (try dsimp only); exact KS.out _ D4.out
                clear hK K
                (try simp only [Act.put, List.setIfInBounds_toArray, List.set_cons_zero, List.set_cons_succ])
                refine wpAnyH_take (i := 12) (oi := { dst := some 52, op := Op.binOp BinOp.neq 4 (Operand.tmp 45) (Operand.tmp 51) 4, type := 4, pos := "l12_run.go:77", after := #[{ on := 5, ground := Ground.data }, { on := 11, ground := Ground.data }, { on := 3, ground := Ground.guard }], guard := some (3, false) }) (v := ?v3_12) rfl (by kernel_rfl) (by kernel_rfl) (by kernel_rfl) (fun _ _ _ h => h) (Or.inl ⟨by rfl, ?hy3_12⟩) (by assumption) ?r3_12
                case hy3_12 => (intro w hSw; (try dsimp only at hSw); go_simp; try (with_reducible rfl))
                (try simp only [Act.put, List.setIfInBounds_toArray, List.set_cons_zero, List.set_cons_succ])
                refine wpAnyH_take (i := 13) (oi := { dst := some 53, op := Op.pick (Operand.tmp 43) (Operand.const (Value.bool true)) (Operand.tmp 52), type := 4, pos := "l12_run.go:77", after := #[{ on := 3, ground := Ground.data }, { on := 12, ground := Ground.data }], guard := none }) (v := ?v3_13) rfl (by kernel_rfl) (by kernel_rfl) (by kernel_rfl) (fun _ _ _ h => h) (Or.inl ⟨by rfl, ?hy3_13⟩) (by assumption) ?r3_13
                case hy3_13 => (intro w hSw; (try dsimp only at hSw); go_simp; try (with_reducible rfl))
                (try simp only [Act.put, List.setIfInBounds_toArray, List.set_cons_zero, List.set_cons_succ])
                refine wpAnyH_done (by kernel_rfl) ?_ _
                have DF := Lib.hid (HD.out.trans (D4.out.mono HD.out.size))
                have BF := Lib.hid (HB.out.trans (DF.out.mono HB.out.size))
                have FF4 := Lib.hid (HF.out.below DF.out)
                go_wp2
                go_roundw
                case rel => exact ⟨k + 1, by omega, by go_num, HY, BF.out, FF4.out⟩
                case measure => simp [intOf]; omega
          · obtain rfl : k = vs.length := by omega
            have HT := Lib.hid (show R = true by rw [← HAL.out, List.drop_length]; rfl)
            have HN := Lib.hid (show forM fs rs nm vs = some (fz0, fx1, fz2, fx3) by rw [HFO.out, HT.out]; rfl)
            have ZZ := ZR.out
            have cf0 := HF.out.cell 0 _ rfl
            have cf1 := HF.out.cell 1 _ rfl
            have cf2 := HF.out.cell 2 _ rfl
            have cf3 := HF.out.cell 3 _ rfl
            have cz0 := ZZ.cell 0 _ rfl
            have cz1 := ZZ.cell 1 _ rfl
            have cz2 := ZZ.cell 2 _ rfl
            have cz3 := ZZ.cell 3 _ rfl
            have ycz0 := ZZ.frozen 0
            have ycz1 := ZZ.frozen 1
            have ycz2 := ZZ.frozen 2
            have ycz3 := ZZ.frozen 3
            have ZZ := Lib.hid ZZ
            have O2 := Lib.hid (O1.out.below HB.out)
            go_wp2
            have VC := (((ZZ.out.set 0 (Value.string fz0)).set 1 (Value.slice D1 fx1.length d1)).set 2 (Value.bool fz2)).set 3 (Value.slice D3 fx3.length d3)
            obtain ⟨i9, hi9, _, hs8, _⟩ := info_parts infoFunction
            refine bodyPost_ret (results_row2 rfl _ _ (w.heap.size + 1) #[.string fz0, .slice D1 fx1.length d1, .bool fz2, .slice D3 fx3.length d3] rfl rfl VC Tryz.underlying73 rfl (by rw [hi9, Option.map_some, hs8]; rfl)) rfl ?_
            rw [HN.out]
            have key : ∀ {u : World}, Mod w.heap.size (w.heap.size + 2) wr u → OwnR fn w.heap.size u.heap.size u [.string fz0, .slice D1 fx1.length d1, .bool fz2, .slice D3 fx3.length d3] (fz0, fx1, fz2, fx3) ∧ Below w.heap.size w u := fun {u} hm => by
              have hs := hm.size
              have hz2 := B1.out.size
              have hz0 := B0.out.size
              simp only [World.size_alloc] at hz0
              have hw1 : w.heap.size + 2 ≤ w1.heap.size := HW1.out
              exact ⟨(OwnR.keep O2.out hm (Or.inr (by omega))).wider (by omega) (by omega) (Nat.le_refl _), below_mod HBW.out hm (Nat.le_refl _) HBW.out.size⟩
            refine ⟨D1, d1, D3, d3, rfl, key ?_⟩
            repeat (first | with_reducible exact Mod.refl _ _ _ | refine Mod.trans ?_ (Mod.set _ (by first | omega | (simp; done) | (simp; omega)) (by first | omega | (simp; done) | (simp; omega)) _) | refine Mod.trans ?_ (Mod.alloc _ _ _ (by first | omega | (simp; omega)) (by first | omega | (simp; omega))))
      · have hne : ((vs.length : Int) != (fx1.length : Int)) = true := by simp; omega
        have HFN := Lib.hid (show forM fs rs nm vs = none by rw [HFO.out]; show (if argsOk fx1 vs then _ else _) = _; rw [ok_len hlen]; rfl)
        have HR := Lib.hid (show forM fs rs nm vs = none from HFN.out)
        have ZZ := Z3.out
        have cz0 := ZZ.cell 0 _ rfl
        have cz1 := ZZ.cell 1 _ rfl
        have cz2 := ZZ.cell 2 _ rfl
        have cz3 := ZZ.cell 3 _ rfl
        have ycz0 := ZZ.frozen 0
        have ycz1 := ZZ.frozen 1
        have ycz2 := ZZ.frozen 2
        have ycz3 := ZZ.frozen 3
        have ZZ := Lib.hid ZZ
        have hbz := BW.out.size
        go_wp2
        have VC := (((ZZ.out.set 0 (Value.string ByteArray.empty)).set 1 (Value.slice none 0 0)).set 2 (Value.bool false)).set 3 (Value.slice none 0 0)
        obtain ⟨i9, hi9, _, hs8, _⟩ := info_parts infoFunction
        refine bodyPost_ret (results_row2 rfl _ _ (w.heap.size + 1) #[.string ByteArray.empty, .slice none 0 0, .bool false, .slice none 0 0] rfl rfl VC Tryz.underlying73 rfl (by rw [hi9, Option.map_some, hs8]; rfl)) rfl ?_
        rw [HR.out]
        refine ⟨none, 0, none, 0, rfl, own_zero_mod BW.out ?_⟩
        repeat (first | with_reducible exact Mod.refl _ _ _ | refine Mod.trans ?_ (Mod.set _ (by first | omega | (simp; done) | (simp; omega)) (by first | omega | (simp; done) | (simp; omega)) _) | refine Mod.trans ?_ (Mod.alloc _ _ _ (by first | omega | (simp; omega)) (by first | omega | (simp; omega))))
end RunI
end Go.Proofs.YtgpjgjjadhmkhaaGreat

/-
  Runs: preconditions, of the program (made by tools/s12f.py).
-/
namespace Go.Proofs.YtgpjgjjadhmkhaaGreat
open Go.RowKit
namespace RunI
open RowK Mem ProgM ProgI ValM RunM
theorem own_below {B : Nat} {e : TypeId} {k : Nat} {v : Value} {n : Nat} {xs : List Value} {w w' : World} (h : w.ownsRow B e k v n xs) (hb : Below w.heap.size w w') : w'.ownsRow B e k v n xs :=
  h.kept (row := none) ⟨hb.os, hb.tape, hb.output, hb.size, fun i hi _ => hb.block i hi⟩ (by cases v.ownBlock <;> simp)
theorem sizes_len (vs : List ValueT) : (sizesV vs).length = vs.length := by simp [sizesV]
theorem sizes_at {vs : List ValueT} {k : Nat} (h : k < vs.length) (h2 : k < (sizesV vs).length) : (sizesV vs)[k] = sizeV vs[k].1 vs[k].2.1 vs[k].2.2 := by simp [sizesV]
theorem meets_none {fs : List FunctionT} {rs : List RuleT} {nm : ByteArray} {vs : List ValueT} (h : forM fs rs nm vs = none) : meetsM fs rs nm vs = false := by simp [meetsM, h]
theorem meets_some {fs : List FunctionT} {rs : List RuleT} {nm : ByteArray} {vs : List ValueT} {f : FunctionT} (h : forM fs rs nm vs = some f) : meetsM fs rs nm vs = SysS.satB vs.length f.2.2.2 (sizesV vs) := by simp [meetsM, h]
theorem for_find {fs : List FunctionT} {rs : List RuleT} {nm : ByteArray} {vs : List ValueT} {f : FunctionT} (h : forM fs rs nm vs = some f) : progV fs rs = true ∧ findF fs nm = some f ∧ argsOk f.2.1 vs = true := by
  unfold RunM.forM at h
  split at h
  · rename_i hp
    split at h
    · rename_i g hg
      split at h
      · rename_i ha
        injection h with h; subst h
        exact ⟨hp, hg, ha⟩
      · cases h
    · cases h
  · cases h
theorem for_len {fs : List FunctionT} {rs : List RuleT} {nm : ByteArray} {vs : List ValueT} {f : FunctionT} (h : forM fs rs nm vs = some f) : vs.length = f.2.1.length := by
  have := (for_find h).2.2
  unfold argsOk at this
  rw [Bool.and_eq_true] at this
  exact of_decide_eq_true this.1
set_option maxHeartbeats 4000000 in
set_option maxRecDepth 100000 in
theorem meets (A B : Option Addr) (c d : Nat) (fs : List FunctionT) (rs : List RuleT) (nm : ByteArray) (C : Option Addr) (e0 : Nat) (vs : List ValueT) (w : World) (hA : ArgR prg w [.slice A fs.length c, .slice B rs.length d] (fs, rs)) (hl : szProgramU (fs, rs) ≤ 9000000) (hV : ArgS valu w C vs.length e0 vs) (hvl : vs.length + szs szValueU vs ≤ 9000000) :
    Calls Tryz.prog 20 #[.agg #[.slice A fs.length c, .slice B rs.length d], .string nm, .slice C vs.length e0] w fun e w' => e = .returned (.bool (meetsM fs rs nm vs)) ∧ Below w.heap.size w w' := by
  have b0 : Below w.heap.size w (w.alloc (Obj.cells #[Value.slice A fs.length c, Value.slice B rs.length d] 27)) := (Below.refl _ _).alloc (Nat.le_refl _) _
  have B0 := Lib.hid b0
  have V0 := Lib.hid (Lvar.new w #[Value.slice A fs.length c, Value.slice B rs.length d] 27)
  have FA := Lib.hid (forArgs A B c d fs rs nm C e0 vs _ (hA.below b0) hl (hV.below b0) hvl)
  have hff : fs.length + szs szFunctionU fs ≤ 9000000 := by simp only [szProgramU] at hl; omega
  have HFS := Lib.hid (find_small (nm := nm) hff)
  have HV := Lib.hid hV
  have hxl : vs.length ≤ 9000000 := by omega
  have HMK := Lib.hid (IntK.run_mk vs.length (by omega))
  clear b0 hA hl hV hvl hff
  cases ho : forM fs rs nm vs with
  | none =>
    have HR := Lib.hid (meets_none ho)
    rw [ho] at FA
    go_enter Tryz.func20, Tryz.ntmps20
    go_wp2_with fail
    refine (Calls.mono FA.out) ?_
    rintro e w1 ⟨D1, d1, D3, d3, rfl, o1, b1⟩
    have B1 := Lib.hid (below_step B0.out b1)
    have FIN := Lib.hid (B1.out.alloc B1.out.size (Obj.cells #[Value.string ByteArray.empty, Value.slice D1 0 d1, Value.bool false, Value.slice D3 0 d3] 73))
    simp only [Option.getD_none, Option.isSome_none, zeroF, List.length_nil]
    clear b1 o1
    go_wp2
    go_ret
    exact ⟨ArgI.ret_b HR.out.symm, FIN.out⟩
  | some g =>
    obtain ⟨fz0, fx1, fz2, fx3⟩ := g
    have HR := Lib.hid (meets_some ho)
    rw [ho] at FA
    rw [(for_find ho).2.1] at HFS
    have hfl : fx3.length + szs szLin fx3 ≤ 9000000 := by have := HFS.out; simp only [Option.getD_some, szFunctionU] at this; omega
    obtain ⟨zs, hzs⟩ : ∃ zs, zs = sizesV vs := ⟨_, rfl⟩
    have hzl : zs.length = vs.length := by rw [hzs, sizes_len]
    have HZ := Lib.hid hzs
    have HZL := Lib.hid hzl
    have hmk := HMK.out
    rw [← hzl] at hmk
    have hxl2 : zs.length ≤ 9000000 := by omega
    clear hzs hzl
    go_enter Tryz.func20, Tryz.ntmps20
    go_wp2_with fail
    refine (Calls.mono FA.out) ?_
    rintro e w1 ⟨D1, d1, D3, d3, rfl, o1, b1⟩
    have B1 := Lib.hid (below_step B0.out b1)
    have O1 := Lib.hid (show OwnR fn _ w1.heap.size w1 [.string fz0, .slice D1 fx1.length d1, .bool fz2, .slice D3 fx3.length d3] (fz0, fx1, fz2, fx3) from o1)
    simp only [Option.getD_some, Option.isSome_some]
    have P3 := Lib.hid (show ArgS Mem.lin w1 D3 fx3.length d3 fx3 by obtain ⟨q, fp, h⟩ := O1.out.arg; obtain ⟨f1, f3, _, _, h3⟩ := fn_parts h; exact ⟨q, f3, h3⟩)
    have b2 : Below w1.heap.size w1 (w1.alloc (Obj.cells #[Value.string fz0, Value.slice D1 fx1.length d1, Value.bool fz2, Value.slice D3 fx3.length d3] 73)) := (Below.refl _ _).alloc (Nat.le_refl _) _
    have F2 := Lib.hid (Lvar.new w1 #[Value.string fz0, Value.slice D1 fx1.length d1, Value.bool fz2, Value.slice D3 fx3.length d3] 73)
    have B2 := Lib.hid (B1.out.trans (b2.mono B1.out.size))
    have P3 := Lib.hid (P3.out.below b2)
    have HV := Lib.hid (HV.out.below B2.out)
    clear b1 o1 b2 V0 FA HFS
    go_upto_region 4 with fail
    generalize w1.alloc (Obj.cells #[Value.string fz0, Value.slice D1 fx1.length d1, Value.bool fz2, Value.slice D3 fx3.length d3] 73) = w2 at *
    have hown0 := IntK.made_own zs.length (by omega) w2
    rw [← IntK.part_zero] at hown0
    have HO := Lib.hid hown0
    have hf2 := F2.out.lt
    rw [← HZL.out]
    clear hown0
    go_wp2
    go_loopw [26] (fun i wr => ∃ k : Nat, k ≤ zs.length ∧ i = .int .i64 k ∧ wr.ownsRow w2.heap.size 3 1 (.slice (some ⟨w2.heap.size, 0, none⟩) zs.length zs.length) zs.length (IntK.part zs k) ∧ Below w2.heap.size w2 wr) (fun i _ => zs.length - (intOf i).toNat)
    case atStart => exact ⟨0, Nat.zero_le _, rfl, HO.out, (Below.refl _ _).alloc (Nat.le_refl _) _⟩
    case round =>
      obtain ⟨k, hk, rfl, hown, hb⟩ := hrel
      have HB := Lib.hid hb
      have hol := hown.lt w2.heap.size rfl
      clear hb HO
      by_cases hlt : k < zs.length
      · have hlt2 : k < vs.length := by have := HZL.out; omega
        obtain ⟨b, o, A2, c2, rfl, hbb, g0, g1, g2, r2⟩ := (HV.out.below HB.out).valu_at hlt2
        have HSZ := Lib.hid (show zs[k] = sizeV vs[k].1 vs[k].2.1 vs[k].2.2 by have h9 := sizes_at hlt2 (by rw [sizes_len]; exact hlt2); have e9 := HZ.out; subst e9; exact h9)
        have HS := Lib.hid (fun W => ValI.size vs[k].1 vs[k].2.1 A2 c2 _ vs[k].2.2 rfl W)
        rw [← HSZ.out] at HS
        generalize vs[k] = x at *
        obtain ⟨z0, z1, x2⟩ := x
        simp only at g0 g1 g2 HS
        have hi0 : (0 : Int) ≤ (k : Int) := by omega
        have hi1 : (k : Int) < (vs.length : Int) := by omega
        have hi2 : (k : Int) < (zs.length : Int) := by omega
        have hd : Below wr.heap.size wr (wr.alloc (Obj.cells #[Value.bool z0, Value.int .i64 z1, Value.slice A2 x2.length c2] 33)) := (Below.refl _ _).alloc (Nat.le_refl _) _
        have HD := Lib.hid hd
        have VX := Lvar.new wr #[Value.bool z0, Value.int .i64 z1, Value.slice A2 x2.length c2] 33
        have cx0 := VX.cell 0 _ rfl
        have cx1 := VX.cell 1 _ rfl
        have cx2 := VX.cell 2 _ rfl
        have hown1 := own_below hown hd
        have HW := Lib.hid hown1
        clear hd VX r2 hown hown1 HSZ
        go_wp2_with fail
        refine (Calls.mono (HS.out _)) ?_
        rintro e w3 ⟨rfl, b3⟩
        have hown3 := own_below HW.out b3
        have hst := hown3.stored k (.int .i64 zs[k])
        rw [IntK.part_set zs k hlt] at hst
        have hcell : w3.cell? ⟨w2.heap.size, k, none⟩ = some (.int .i64 0) := by
          rw [hown3.cellAt k (by omega)]
          simp only [IntK.part, IntK.iv]
          rw [List.getElem?_append_right (by simp; omega), List.length_map, List.length_take, Nat.min_eq_left (by omega), Nat.sub_self, List.getElem?_replicate, if_pos (by omega)]
        have hfr := hown3.frozenAt k
        have D3 := Lib.hid (HD.out.trans (b3.mono HD.out.size))
        have hb3 : Below w2.heap.size w2 (w3.setCell ⟨w2.heap.size, k, none⟩ (.int .i64 zs[k])) := (HB.out.trans (D3.out.mono HB.out.size)).setCell (Nat.le_refl _) _
        have HST := Lib.hid hst.1
        have HB3 := Lib.hid hb3
        clear hst hb3 hown3 b3
        generalize zs[k] = s at *
        go_wp2
        go_roundw
        case rel => exact ⟨k + 1, by omega, by go_num, HST.out, HB3.out⟩
        case measure => simp [intOf]; omega
      · obtain rfl : k = zs.length := by omega
        rw [IntK.part_all] at hown
        obtain ⟨A', cap, e, h1, h2, _, _⟩ := of_own hown
        injection e with e1 e2 e3
        subst e1
        clear e2 e3
        have F3 := F2.out.below HB.out
        have cf3 := F3.cell 3 _ rfl
        have SA := Lib.hid (SysI.satisfies _ _ (zs.length : Int) D3 (some ⟨w2.heap.size, 0, none⟩) d3 zs.length fx3 zs wr (P3.out.below HB.out) (by rw [linsSize_szs]; omega) h1 (by omega))
        have HF := Lib.hid (show SysS.satB zs.length fx3 zs = meetsM fs rs nm vs by rw [HR.out, ← HZ.out, HZL.out])
        have BW := Lib.hid (B2.out.trans (HB.out.mono B2.out.size))
        clear hown h1 h2 F3
        go_wp2_with fail
        refine (Calls.mono SA.out) ?_
        rintro e w5 ⟨rfl, b5⟩
        have B5 := Lib.hid (below_step BW.out b5)
        clear b5
        go_wp2
        go_ret
        exact ⟨ArgI.ret_b HF.out, B5.out⟩
end RunI
end Go.Proofs.YtgpjgjjadhmkhaaGreat

/-
  Runs: which function may be called, of the model (made by tools/s12f.py).
-/
namespace Go.Proofs.YtgpjgjjadhmkhaaGreat
open Go.RowKit
namespace RunS
open RowK Mem ProgM ProgI ValM RunM
set_option maxHeartbeats 4000000 in
set_option maxRecDepth 100000 in
theorem args (A B : Option Addr) (c d : Nat) (fs : List FunctionT) (rs : List RuleT) (nm : ByteArray) (C : Option Addr) (e0 : Nat) (vs : List ValueT) (w : World) (hA : ArgR prg w [.slice A fs.length c, .slice B rs.length d] (fs, rs)) (hl : szProgramU (fs, rs) ≤ 9000000) (hV : ArgS valu w C vs.length e0 vs) (hvl : vs.length + szs szValueU vs ≤ 9000000) :
    Calls Tryz.prog 41 #[.agg #[.slice A fs.length c, .slice B rs.length d], .string nm, .slice C vs.length e0] w fun e w' => e = .returned (.bool (forM fs rs nm vs).isSome) ∧ Below w.heap.size w w' := by
  have b0 : Below w.heap.size w (w.alloc (Obj.cells #[Value.slice A fs.length c, Value.slice B rs.length d] 27)) := (Below.refl _ _).alloc (Nat.le_refl _) _
  have B0 := Lib.hid b0
  have V0 := Lib.hid (Lvar.new w #[Value.slice A fs.length c, Value.slice B rs.length d] 27)
  have VP := Lib.hid (fun W (h : Below w.heap.size w W) => ProgS.progA (hA.below h) hl)
  have hff : fs.length + szs szFunctionU fs ≤ 9000000 := by simp only [szProgramU] at hl; omega
  have FF := Lib.hid (ProgS.find A B rs.length c d fs nm _ ((arg_prg hA).1.below b0) (by omega))
  have HFS := Lib.hid (find_small (nm := nm) hff)
  have HV := Lib.hid hV
  have HVL := Lib.hid hvl
  have hxl : vs.length ≤ 9000000 := by omega
  clear b0 hA hl hV hvl hff
  obtain ⟨R, hR⟩ : ∃ R : Bool, R = (forM fs rs nm vs).isSome := ⟨_, rfl⟩
  rw [← hR]
  have HRR := Lib.hid hR
  clear hR
  go_enter Tryz.func41, Tryz.ntmps41
  go_wp2_with fail
  refine (Calls.mono FF.out) ?_
  rintro e w1 ⟨D1, d1, D3, d3, rfl, o1, b1⟩
  have B1 := Lib.hid (below_step B0.out b1)
  have V1 := Lib.hid (V0.out.below b1)
  have O1 := Lib.hid o1
  clear b1 o1
  cases hF : findF fs nm with
  | none =>
    have HN := Lib.hid (show R = false by rw [HRR.out, for_none hF]; rfl)
    have B2 := Lib.hid (B1.out.alloc B1.out.size (Obj.cells #[Value.string ByteArray.empty, Value.slice D1 0 d1, Value.bool false, Value.slice D3 0 d3] 73))
    simp only [Option.getD_none, Option.isSome_none, zeroF, List.length_nil]
    go_wp2
    go_ret
    exact ⟨ArgI.ret_b HN.out.symm, B2.out⟩
  | some g =>
    obtain ⟨fz0, fx1, fz2, fx3⟩ := g
    rw [hF] at O1 HFS
    have O1 := Lib.hid (show OwnR fn _ w1.heap.size w1 [.string fz0, .slice D1 fx1.length d1, .bool fz2, .slice D3 fx3.length d3] (fz0, fx1, fz2, fx3) from O1.out)
    simp only [Option.getD_some, Option.isSome_some]
    have b2 : Below w1.heap.size w1 (w1.alloc (Obj.cells #[Value.string fz0, Value.slice D1 fx1.length d1, Value.bool fz2, Value.slice D3 fx3.length d3] 73)) := (Below.refl _ _).alloc (Nat.le_refl _) _
    have F2 := Lib.hid (Lvar.new w1 #[Value.string fz0, Value.slice D1 fx1.length d1, Value.bool fz2, Value.slice D3 fx3.length d3] 73)
    have V2 := Lib.hid (V1.out.below b2)
    have B2 := Lib.hid (B1.out.trans (b2.mono B1.out.size))
    have P1 := Lib.hid (show ArgS Rep.str (w1.alloc (Obj.cells #[Value.string fz0, Value.slice D1 fx1.length d1, Value.bool fz2, Value.slice D3 fx3.length d3] 73)) D1 fx1.length d1 fx1 by obtain ⟨q, fp, h⟩ := O1.out.arg; obtain ⟨f1, f3, _, h1, _⟩ := fn_parts h; exact ArgS.below ⟨q, f1, h1⟩ b2)
    have hfl : fx1.length + szs szStr fx1 ≤ 9000000 := by have := HFS.out; simp only [Option.getD_some, szFunctionU] at this; omega
    have HFL := Lib.hid hfl
    have hfll : fx1.length ≤ 9000000 := by omega
    have cv0 := V2.out.cell 0 _ rfl
    have cv1 := V2.out.cell 1 _ rfl
    have VPW := Lib.hid (VP.out _ B2.out)
    clear b2 hfl FF VP V0 V1 HFS
    cases hP : progV fs rs with
    | false =>
      have HN := Lib.hid (show R = false by rw [HRR.out, for_bad hP]; rfl)
      rw [hP] at VPW
      go_wp2_with fail
      refine (Calls.mono VPW.out) ?_
      rintro e w3 ⟨rfl, b3⟩
      have B3 := Lib.hid (below_step B2.out b3)
      go_wp2
      go_ret
      exact ⟨ArgI.ret_b HN.out.symm, B3.out⟩
    | true =>
      rw [hP] at VPW
      have HFO := Lib.hid (for_some (vs := vs) hP hF)
      go_wp2_with fail
      refine (Calls.mono VPW.out) ?_
      rintro e w3 ⟨rfl, b3⟩
      have B3 := Lib.hid (below_step B2.out b3)
      have F3 := Lib.hid (F2.out.below b3)
      have P3 := Lib.hid (P1.out.below b3)
      have cf1 := F3.out.cell 1 _ rfl
      clear b3 cv0 cv1 V2 F2 P1
      by_cases hlen : vs.length = fx1.length
      · have hne : ((vs.length : Int) != (fx1.length : Int)) = false := by simp [hlen]
        have HLEN := Lib.hid hlen
        have HK := Lib.hid (show R = kindsV vs fx1 by rw [HRR.out, HFO.out]; show (if argsOk fx1 vs then _ else _ : Option FunctionT).isSome = _; rw [ok_kinds hlen]; cases kindsV vs fx1 <;> rfl)
        clear hlen HRR HFO
        go_wp2
        go_loopw [9] (fun i wr => ∃ k : Nat, k ≤ vs.length ∧ i = .int .i64 k ∧ Hid (kindsV (vs.drop k) (fx1.drop k) = R) ∧ Below w3.heap.size w3 wr) (fun i _ => vs.length - (intOf i).toNat)
        case atStart => exact ⟨0, Nat.zero_le _, rfl, Lib.hid HK.out.symm, Below.refl _ _⟩
        case round =>
          obtain ⟨k, hk, rfl, hall, hb⟩ := hrel
          have HAL := Lib.hid hall.out
          have HB := Lib.hid hb
          have HF := Lib.hid (F3.out.below hb)
          have HBW := Lib.hid (B3.out.trans (hb.mono B3.out.size))
          clear hall hb cf1
          by_cases hlt : k < vs.length
          · have hlt2 : k < fx1.length := by have := HLEN.out; omega
            obtain ⟨b, o, A2, c2, rfl, hbb, g0, g1, g2, r2⟩ := (HV.out.below HBW.out).valu_at hlt
            obtain ⟨b7, o7, rfl, hbb7, g7⟩ := str_at10 (P3.out.below HB.out) hlt2
            have HST := Lib.hid (kinds_step hlt hlt2)
            have hs9 : vs[k].2.2.length ≤ 1000000000 := by
              have := HVL.out
              have := szs_mem (sz := szValueU) (List.getElem_mem hlt)
              simp only [szValueU] at this
              omega
            have hs7 : fx1[k].size ≤ maxLen := by
              have := HFL.out
              have : fx1[k].size ≤ szs szStr fx1 := szs_mem (sz := szStr) (List.getElem_mem hlt2)
              unfold maxLen; omega
            generalize vs[k] = x at *
            generalize fx1[k] = p at *
            obtain ⟨z0, z1, x2⟩ := x
            simp only at g0 g1 g2 r2 HST hs9
            have hi0 : (0 : Int) ≤ (k : Int) := by omega
            have hi1 : (k : Int) < (vs.length : Int) := by omega
            have hi2 : (k : Int) < (fx1.length : Int) := by omega
            have IV := Lib.hid (fun W (h : Below wr.heap.size wr W) => ValS.valid z0 z1 A2 c2 x2 W (r2.below h) hs9)
            have IL := Lib.hid (fun W => NameS.specList p W hs7)
            have hfl9 := HF.out.lt
            have KS := Lib.hid (fun W (h : Below wr.heap.size wr W) => (show W.cell? ⟨b, o + k * 3, none⟩ = some (.bool z0) ∧ W.cell? ⟨b, o + k * 3 + 1, none⟩ = some (.int .i64 z1) ∧ W.cell? ⟨b, o + k * 3 + 2, none⟩ = some (.slice A2 x2.length c2) ∧ W.cell? ⟨w1.heap.size, 1, none⟩ = some (.slice (some ⟨b7, o7, none⟩) fx1.length d1) ∧ W.cell? ⟨b7, o7 + k, none⟩ = some (.string p) from ⟨by rw [h.cell (p := ⟨b, o + k * 3, none⟩) hbb]; exact g0, by rw [h.cell (p := ⟨b, o + k * 3 + 1, none⟩) hbb]; exact g1, by rw [h.cell (p := ⟨b, o + k * 3 + 2, none⟩) hbb]; exact g2, (HF.out.below h).cell 1 _ rfl, by rw [h.cell (p := ⟨b7, o7 + k, none⟩) hbb7]; exact g7⟩))
            clear r2 hs9 hs7
            generalize valV z0 z1 x2 = t at *
            generalize NameM.listName p = l at *
            cases t with
            | false =>
              have HN := Lib.hid (show R = false by rw [← HAL.out, HST.out]; rfl)
              go_upto_region 7 with fail
              refine wp_region_held_drew (S := (fun w' => w'.cell? ⟨b, o + k * 3, none⟩ = some (.bool z0) ∧ w'.cell? ⟨b, o + k * 3 + 1, none⟩ = some (.int .i64 z1) ∧ w'.cell? ⟨b, o + k * 3 + 2, none⟩ = some (.slice A2 x2.length c2) ∧ w'.cell? ⟨w1.heap.size, 1, none⟩ = some (.slice (some ⟨b7, o7, none⟩) fx1.length d1) ∧ w'.cell? ⟨b7, o7 + k, none⟩ = some (.string p))) (by kernel_rfl) ?_ (fun hHeld => ?_)
              · (try dsimp only); exact KS.out _ (Below.refl _ _).drew
              refine wpAnyH_take (i := 0) (oi := { dst := some 37, op := Op.move (Operand.tmp 2), type := 28, pos := "l12_run.go:195", after := #[], guard := none }) (v := ?v4_0) rfl (by kernel_rfl) (by kernel_rfl) (by kernel_rfl) (fun _ _ _ h => h) (Or.inl ⟨by rfl, ?hy4_0⟩) (by assumption) ?r4_0
              case hy4_0 => (intro w hSw; (try dsimp only at hSw); go_simp; try (with_reducible rfl))
              (try simp only [Act.put, List.setIfInBounds_toArray, List.set_cons_zero, List.set_cons_succ])
              refine wpAnyH_take (i := 1) (oi := { dst := some 38, op := Op.move (Operand.tmp 9), type := 3, pos := "l12_run.go:195", after := #[], guard := none }) (v := ?v4_1) rfl (by kernel_rfl) (by kernel_rfl) (by kernel_rfl) (fun _ _ _ h => h) (Or.inl ⟨by rfl, ?hy4_1⟩) (by assumption) ?r4_1
              case hy4_1 => (intro w hSw; (try dsimp only at hSw); go_simp; try (with_reducible rfl))
              (try simp only [Act.put, List.setIfInBounds_toArray, List.set_cons_zero, List.set_cons_succ])
              refine wpAnyH_take (i := 2) (oi := { dst := some 39, op := Op.indexAddr 28 (Operand.tmp 37) (Operand.tmp 38), type := 0, pos := "l12_run.go:195", after := #[{ on := 0, ground := Ground.data }, { on := 1, ground := Ground.data }], guard := none }) (v := ?v4_2) rfl (by kernel_rfl) (by kernel_rfl) (by kernel_rfl) (fun _ _ _ h => h) (Or.inl ⟨by rfl, ?hy4_2⟩) (by assumption) ?r4_2
              case hy4_2 => (intro w hSw; (try dsimp only at hSw); go_simp; try (with_reducible rfl))
              (try simp only [Act.put, List.setIfInBounds_toArray, List.set_cons_zero, List.set_cons_succ])
              refine wpAnyH_take (i := 3) (oi := { dst := some 40, op := Op.load 33 (Operand.tmp 39), type := 33, pos := "l12_run.go:195", after := #[{ on := 2, ground := Ground.data }], guard := none }) (v := ?v4_3) rfl (by kernel_rfl) (by kernel_rfl) (by kernel_rfl) (fun _ _ _ h => h) (Or.inl ⟨by rfl, ?hy4_3⟩) (by assumption) ?r4_3
              case hy4_3 => (intro w hSw; (try dsimp only at hSw); go_simp; try (with_reducible rfl))
              (try simp only [Act.put, List.setIfInBounds_toArray, List.set_cons_zero, List.set_cons_succ])
              refine wpAnyH_ready (rs := [4]) (by kernel_rfl) (by simp) ?_
              refine AllReadyH.cons (o := { dst := some 41, op := Op.call { callee := Callee.value (Operand.func 16), args := #[Operand.tmp 40], argTypes := #[33] }, type := 4, pos := "l12_run.go:195", after := #[{ on := 3, ground := Ground.data }], guard := none }) rfl (fun K hK => ?_) AllReadyH.nil
              go_simp
              go_at_call 16; (with_reducible refine (Calls.mono (IV.out _ (Below.refl _ _).drew)) ?_); rintro e w4 ⟨rfl, b4⟩; (have D3 := Lib.hid (show Below wr.heap.size wr w4 from (Below.refl _ _).drew.trans b4)); clear b4
              refine hK.out _ _ ?_ (fun hHeld2 => ?_)
              · (try dsimp only); exact KS.out _ D3.out
              clear hK K
              (try simp only [Act.put, List.setIfInBounds_toArray, List.set_cons_zero, List.set_cons_succ])
              refine wpAnyH_take (i := 5) (oi := { dst := some 42, op := Op.unOp UnOp.not 4 (Operand.tmp 41), type := 4, pos := "l12_run.go:195", after := #[{ on := 4, ground := Ground.data }], guard := none }) (v := ?v4_5) rfl (by kernel_rfl) (by kernel_rfl) (by kernel_rfl) (fun _ _ _ h => h) (Or.inl ⟨by rfl, ?hy4_5⟩) (by assumption) ?r4_5
              case hy4_5 => (intro w hSw; (try dsimp only at hSw); go_simp; try (with_reducible rfl))
              (try simp only [Act.put, List.setIfInBounds_toArray, List.set_cons_zero, List.set_cons_succ])
              refine wpAnyH_take (i := 6) (oi := { dst := some 43, op := Op.move (Operand.tmp 42), type := 4, pos := "l12_run.go:195", after := #[{ on := 5, ground := Ground.data }, { on := 4, ground := Ground.chain }], guard := none }) (v := ?v4_6) rfl (by kernel_rfl) (by kernel_rfl) (by kernel_rfl) (fun _ _ _ h => h) (Or.inl ⟨by rfl, ?hy4_6⟩) (by assumption) ?r4_6
              case hy4_6 => (intro w hSw; (try dsimp only at hSw); go_simp; try (with_reducible rfl))
              (try simp only [Act.put, List.setIfInBounds_toArray, List.set_cons_zero, List.set_cons_succ])
              refine wpAnyH_take (i := 7) (oi := { dst := some 44, op := Op.move (Operand.tmp 2), type := 28, pos := "l12_run.go:195", after := #[{ on := 6, ground := Ground.guard }], guard := some (6, false) }) (v := undef) rfl (by kernel_rfl) (by kernel_rfl) (by kernel_rfl) (fun _ _ _ h => h) (Or.inr ⟨by rfl, rfl⟩) (by assumption) ?_
              (try simp only [Act.put, List.setIfInBounds_toArray, List.set_cons_zero, List.set_cons_succ])
              refine wpAnyH_take (i := 8) (oi := { dst := some 45, op := Op.move (Operand.tmp 9), type := 3, pos := "l12_run.go:195", after := #[{ on := 6, ground := Ground.guard }], guard := some (6, false) }) (v := undef) rfl (by kernel_rfl) (by kernel_rfl) (by kernel_rfl) (fun _ _ _ h => h) (Or.inr ⟨by rfl, rfl⟩) (by assumption) ?_
              (try simp only [Act.put, List.setIfInBounds_toArray, List.set_cons_zero, List.set_cons_succ])
              refine wpAnyH_take (i := 9) (oi := { dst := some 46, op := Op.indexAddr 28 (Operand.tmp 44) (Operand.tmp 45), type := 0, pos := "l12_run.go:195", after := #[{ on := 7, ground := Ground.data }, { on := 8, ground := Ground.data }, { on := 6, ground := Ground.guard }], guard := some (6, false) }) (v := undef) rfl (by kernel_rfl) (by kernel_rfl) (by kernel_rfl) (fun _ _ _ h => h) (Or.inr ⟨by rfl, rfl⟩) (by assumption) ?_
              (try simp only [Act.put, List.setIfInBounds_toArray, List.set_cons_zero, List.set_cons_succ])
              refine wpAnyH_take (i := 10) (oi := { dst := some 47, op := Op.fieldAddr 33 (Operand.tmp 46) 0, type := 0, pos := "l12_run.go:195", after := #[{ on := 9, ground := Ground.data }, { on := 6, ground := Ground.guard }], guard := some (6, false) }) (v := undef) rfl (by kernel_rfl) (by kernel_rfl) (by kernel_rfl) (fun _ _ _ h => h) (Or.inr ⟨by rfl, rfl⟩) (by assumption) ?_
              (try simp only [Act.put, List.setIfInBounds_toArray, List.set_cons_zero, List.set_cons_succ])
              refine wpAnyH_take (i := 11) (oi := { dst := some 48, op := Op.load 4 (Operand.tmp 47), type := 4, pos := "l12_run.go:195", after := #[{ on := 10, ground := Ground.data }, { on := 6, ground := Ground.guard }], guard := some (6, false) }) (v := undef) rfl (by kernel_rfl) (by kernel_rfl) (by kernel_rfl) (fun _ _ _ h => h) (Or.inr ⟨by rfl, rfl⟩) (by assumption) ?_
              (try simp only [Act.put, List.setIfInBounds_toArray, List.set_cons_zero, List.set_cons_succ])
              refine wpAnyH_take (i := 12) (oi := { dst := some 49, op := Op.fieldAddr 73 (Operand.tmp 7) 1, type := 0, pos := "l12_run.go:195", after := #[{ on := 6, ground := Ground.guard }], guard := some (6, false) }) (v := undef) rfl (by kernel_rfl) (by kernel_rfl) (by kernel_rfl) (fun _ _ _ h => h) (Or.inr ⟨by rfl, rfl⟩) (by assumption) ?_
              (try simp only [Act.put, List.setIfInBounds_toArray, List.set_cons_zero, List.set_cons_succ])
              refine wpAnyH_take (i := 13) (oi := { dst := some 50, op := Op.load 71 (Operand.tmp 49), type := 71, pos := "l12_run.go:195", after := #[{ on := 12, ground := Ground.data }, { on := 6, ground := Ground.guard }], guard := some (6, false) }) (v := undef) rfl (by kernel_rfl) (by kernel_rfl) (by kernel_rfl) (fun _ _ _ h => h) (Or.inr ⟨by rfl, rfl⟩) (by assumption) ?_
              (try simp only [Act.put, List.setIfInBounds_toArray, List.set_cons_zero, List.set_cons_succ])
              refine wpAnyH_take (i := 14) (oi := { dst := some 51, op := Op.move (Operand.tmp 9), type := 3, pos := "l12_run.go:195", after := #[{ on := 6, ground := Ground.guard }], guard := some (6, false) }) (v := undef) rfl (by kernel_rfl) (by kernel_rfl) (by kernel_rfl) (fun _ _ _ h => h) (Or.inr ⟨by rfl, rfl⟩) (by assumption) ?_
              (try simp only [Act.put, List.setIfInBounds_toArray, List.set_cons_zero, List.set_cons_succ])
              refine wpAnyH_take (i := 15) (oi := { dst := some 52, op := Op.indexAddr 71 (Operand.tmp 50) (Operand.tmp 51), type := 0, pos := "l12_run.go:195", after := #[{ on := 13, ground := Ground.data }, { on := 14, ground := Ground.data }, { on := 6, ground := Ground.guard }], guard := some (6, false) }) (v := undef) rfl (by kernel_rfl) (by kernel_rfl) (by kernel_rfl) (fun _ _ _ h => h) (Or.inr ⟨by rfl, rfl⟩) (by assumption) ?_
              (try simp only [Act.put, List.setIfInBounds_toArray, List.set_cons_zero, List.set_cons_succ])
              refine wpAnyH_take (i := 16) (oi := { dst := some 53, op := Op.load 9 (Operand.tmp 52), type := 9, pos := "l12_run.go:195", after := #[{ on := 15, ground := Ground.data }, { on := 6, ground := Ground.guard }], guard := some (6, false) }) (v := undef) rfl (by kernel_rfl) (by kernel_rfl) (by kernel_rfl) (fun _ _ _ h => h) (Or.inr ⟨by rfl, rfl⟩) (by assumption) ?_
              (try simp only [Act.put, List.setIfInBounds_toArray, List.set_cons_zero, List.set_cons_succ])
              refine wpAnyH_take (i := 17) (oi := { dst := some 54, op := Op.call { callee := Callee.value (Operand.func 82), args := #[Operand.tmp 53], argTypes := #[9] }, type := 4, pos := "l12_run.go:195", after := #[{ on := 16, ground := Ground.data }, { on := 6, ground := Ground.chain }, { on := 6, ground := Ground.guard }], guard := some (6, false) }) (v := undef) rfl (by kernel_rfl) (by kernel_rfl) (by kernel_rfl) (fun _ _ _ h => h) (Or.inr ⟨by rfl, rfl⟩) (by assumption) ?_
              (try simp only [Act.put, List.setIfInBounds_toArray, List.set_cons_zero, List.set_cons_succ])
              refine wpAnyH_take (i := 18) (oi := { dst := some 55, op := Op.binOp BinOp.neq 4 (Operand.tmp 48) (Operand.tmp 54) 4, type := 4, pos := "l12_run.go:195", after := #[{ on := 11, ground := Ground.data }, { on := 17, ground := Ground.data }, { on := 6, ground := Ground.guard }], guard := some (6, false) }) (v := undef) rfl (by kernel_rfl) (by kernel_rfl) (by kernel_rfl) (fun _ _ _ h => h) (Or.inr ⟨by rfl, rfl⟩) (by assumption) ?_
              (try simp only [Act.put, List.setIfInBounds_toArray, List.set_cons_zero, List.set_cons_succ])
              refine wpAnyH_take (i := 19) (oi := { dst := some 56, op := Op.pick (Operand.tmp 43) (Operand.const (Value.bool true)) (Operand.tmp 55), type := 4, pos := "l12_run.go:195", after := #[{ on := 6, ground := Ground.data }, { on := 18, ground := Ground.data }], guard := none }) (v := ?v4_19) rfl (by kernel_rfl) (by kernel_rfl) (by kernel_rfl) (fun _ _ _ h => h) (Or.inl ⟨by rfl, ?hy4_19⟩) (by assumption) ?r4_19
              case hy4_19 => (intro w hSw; (try dsimp only at hSw); go_simp; try (with_reducible rfl))
              (try simp only [Act.put, List.setIfInBounds_toArray, List.set_cons_zero, List.set_cons_succ])
              refine wpAnyH_done (by kernel_rfl) ?_ _
              have BF := Lib.hid (HBW.out.trans (D3.out.mono HBW.out.size))
              go_wp2
              go_ret
              exact ⟨ArgI.ret_b HN.out.symm, BF.out⟩
            | true =>
              cases hzl9 : (z0 == l) with
              | false =>
                have HN := Lib.hid (show R = false by rw [← HAL.out, HST.out, hzl9]; rfl)
                have hzn : (z0 != l) = true := by simp only [bne, hzl9]; rfl
                go_upto_region 7 with fail
                refine wp_region_held_drew (S := (fun w' => w'.cell? ⟨b, o + k * 3, none⟩ = some (.bool z0) ∧ w'.cell? ⟨b, o + k * 3 + 1, none⟩ = some (.int .i64 z1) ∧ w'.cell? ⟨b, o + k * 3 + 2, none⟩ = some (.slice A2 x2.length c2) ∧ w'.cell? ⟨w1.heap.size, 1, none⟩ = some (.slice (some ⟨b7, o7, none⟩) fx1.length d1) ∧ w'.cell? ⟨b7, o7 + k, none⟩ = some (.string p))) (by kernel_rfl) ?_ (fun hHeld => ?_)
                · (try dsimp only); exact KS.out _ (Below.refl _ _).drew
                refine wpAnyH_take (i := 0) (oi := { dst := some 37, op := Op.move (Operand.tmp 2), type := 28, pos := "l12_run.go:195", after := #[], guard := none }) (v := ?v5_0) rfl (by kernel_rfl) (by kernel_rfl) (by kernel_rfl) (fun _ _ _ h => h) (Or.inl ⟨by rfl, ?hy5_0⟩) (by assumption) ?r5_0
                case hy5_0 => (intro w hSw; (try dsimp only at hSw); go_simp; try (with_reducible rfl))
                (try simp only [Act.put, List.setIfInBounds_toArray, List.set_cons_zero, List.set_cons_succ])
                refine wpAnyH_take (i := 1) (oi := { dst := some 38, op := Op.move (Operand.tmp 9), type := 3, pos := "l12_run.go:195", after := #[], guard := none }) (v := ?v5_1) rfl (by kernel_rfl) (by kernel_rfl) (by kernel_rfl) (fun _ _ _ h => h) (Or.inl ⟨by rfl, ?hy5_1⟩) (by assumption) ?r5_1
                case hy5_1 => (intro w hSw; (try dsimp only at hSw); go_simp; try (with_reducible rfl))
                (try simp only [Act.put, List.setIfInBounds_toArray, List.set_cons_zero, List.set_cons_succ])
                refine wpAnyH_take (i := 2) (oi := { dst := some 39, op := Op.indexAddr 28 (Operand.tmp 37) (Operand.tmp 38), type := 0, pos := "l12_run.go:195", after := #[{ on := 0, ground := Ground.data }, { on := 1, ground := Ground.data }], guard := none }) (v := ?v5_2) rfl (by kernel_rfl) (by kernel_rfl) (by kernel_rfl) (fun _ _ _ h => h) (Or.inl ⟨by rfl, ?hy5_2⟩) (by assumption) ?r5_2
                case hy5_2 => (intro w hSw; (try dsimp only at hSw); go_simp; try (with_reducible rfl))
                (try simp only [Act.put, List.setIfInBounds_toArray, List.set_cons_zero, List.set_cons_succ])
                refine wpAnyH_take (i := 3) (oi := { dst := some 40, op := Op.load 33 (Operand.tmp 39), type := 33, pos := "l12_run.go:195", after := #[{ on := 2, ground := Ground.data }], guard := none }) (v := ?v5_3) rfl (by kernel_rfl) (by kernel_rfl) (by kernel_rfl) (fun _ _ _ h => h) (Or.inl ⟨by rfl, ?hy5_3⟩) (by assumption) ?r5_3
                case hy5_3 => (intro w hSw; (try dsimp only at hSw); go_simp; try (with_reducible rfl))
                (try simp only [Act.put, List.setIfInBounds_toArray, List.set_cons_zero, List.set_cons_succ])
                refine wpAnyH_ready (rs := [4]) (by kernel_rfl) (by simp) ?_
                refine AllReadyH.cons (o := { dst := some 41, op := Op.call { callee := Callee.value (Operand.func 16), args := #[Operand.tmp 40], argTypes := #[33] }, type := 4, pos := "l12_run.go:195", after := #[{ on := 3, ground := Ground.data }], guard := none }) rfl (fun K hK => ?_) AllReadyH.nil
                go_simp
                go_at_call 16; (with_reducible refine (Calls.mono (IV.out _ (Below.refl _ _).drew)) ?_); rintro e w4 ⟨rfl, b4⟩; (have D3 := Lib.hid (show Below wr.heap.size wr w4 from (Below.refl _ _).drew.trans b4)); clear b4
                refine hK.out _ _ ?_ (fun hHeld2 => ?_)
                · (try dsimp only); exact KS.out _ D3.out
                clear hK K
                (try simp only [Act.put, List.setIfInBounds_toArray, List.set_cons_zero, List.set_cons_succ])
                refine wpAnyH_take (i := 5) (oi := { dst := some 42, op := Op.unOp UnOp.not 4 (Operand.tmp 41), type := 4, pos := "l12_run.go:195", after := #[{ on := 4, ground := Ground.data }], guard := none }) (v := ?v5_5) rfl (by kernel_rfl) (by kernel_rfl) (by kernel_rfl) (fun _ _ _ h => h) (Or.inl ⟨by rfl, ?hy5_5⟩) (by assumption) ?r5_5
                case hy5_5 => (intro w hSw; (try dsimp only at hSw); go_simp; try (with_reducible rfl))
                (try simp only [Act.put, List.setIfInBounds_toArray, List.set_cons_zero, List.set_cons_succ])
                refine wpAnyH_take (i := 6) (oi := { dst := some 43, op := Op.move (Operand.tmp 42), type := 4, pos := "l12_run.go:195", after := #[{ on := 5, ground := Ground.data }, { on := 4, ground := Ground.chain }], guard := none }) (v := ?v5_6) rfl (by kernel_rfl) (by kernel_rfl) (by kernel_rfl) (fun _ _ _ h => h) (Or.inl ⟨by rfl, ?hy5_6⟩) (by assumption) ?r5_6
                case hy5_6 => (intro w hSw; (try dsimp only at hSw); go_simp; try (with_reducible rfl))
                (try simp only [Act.put, List.setIfInBounds_toArray, List.set_cons_zero, List.set_cons_succ])
                refine wpAnyH_take (i := 7) (oi := { dst := some 44, op := Op.move (Operand.tmp 2), type := 28, pos := "l12_run.go:195", after := #[{ on := 6, ground := Ground.guard }], guard := some (6, false) }) (v := ?v5_7) rfl (by kernel_rfl) (by kernel_rfl) (by kernel_rfl) (fun _ _ _ h => h) (Or.inl ⟨by rfl, ?hy5_7⟩) (by assumption) ?r5_7
                case hy5_7 => (intro w hSw; (try dsimp only at hSw); go_simp; try (with_reducible rfl))
                (try simp only [Act.put, List.setIfInBounds_toArray, List.set_cons_zero, List.set_cons_succ])
                refine wpAnyH_take (i := 8) (oi := { dst := some 45, op := Op.move (Operand.tmp 9), type := 3, pos := "l12_run.go:195", after := #[{ on := 6, ground := Ground.guard }], guard := some (6, false) }) (v := ?v5_8) rfl (by kernel_rfl) (by kernel_rfl) (by kernel_rfl) (fun _ _ _ h => h) (Or.inl ⟨by rfl, ?hy5_8⟩) (by assumption) ?r5_8
                case hy5_8 => (intro w hSw; (try dsimp only at hSw); go_simp; try (with_reducible rfl))
                (try simp only [Act.put, List.setIfInBounds_toArray, List.set_cons_zero, List.set_cons_succ])
                refine wpAnyH_take (i := 9) (oi := { dst := some 46, op := Op.indexAddr 28 (Operand.tmp 44) (Operand.tmp 45), type := 0, pos := "l12_run.go:195", after := #[{ on := 7, ground := Ground.data }, { on := 8, ground := Ground.data }, { on := 6, ground := Ground.guard }], guard := some (6, false) }) (v := ?v5_9) rfl (by kernel_rfl) (by kernel_rfl) (by kernel_rfl) (fun _ _ _ h => h) (Or.inl ⟨by rfl, ?hy5_9⟩) (by assumption) ?r5_9
                case hy5_9 => (intro w hSw; (try dsimp only at hSw); go_simp; try (with_reducible rfl))
                (try simp only [Act.put, List.setIfInBounds_toArray, List.set_cons_zero, List.set_cons_succ])
                refine wpAnyH_take (i := 10) (oi := { dst := some 47, op := Op.fieldAddr 33 (Operand.tmp 46) 0, type := 0, pos := "l12_run.go:195", after := #[{ on := 9, ground := Ground.data }, { on := 6, ground := Ground.guard }], guard := some (6, false) }) (v := ?v5_10) rfl (by kernel_rfl) (by kernel_rfl) (by kernel_rfl) (fun _ _ _ h => h) (Or.inl ⟨by rfl, ?hy5_10⟩) (by assumption) ?r5_10
                case hy5_10 => (intro w hSw; (try dsimp only at hSw); go_simp; try (with_reducible rfl))
                (try simp only [Act.put, List.setIfInBounds_toArray, List.set_cons_zero, List.set_cons_succ])
                refine wpAnyH_take (i := 11) (oi := { dst := some 48, op := Op.load 4 (Operand.tmp 47), type := 4, pos := "l12_run.go:195", after := #[{ on := 10, ground := Ground.data }, { on := 6, ground := Ground.guard }], guard := some (6, false) }) (v := ?v5_11) rfl (by kernel_rfl) (by kernel_rfl) (by kernel_rfl) (fun _ _ _ h => h) (Or.inl ⟨by rfl, ?hy5_11⟩) (by assumption) ?r5_11
                case hy5_11 => (intro w hSw; (try dsimp only at hSw); go_simp; try (with_reducible rfl))
                (try simp only [Act.put, List.setIfInBounds_toArray, List.set_cons_zero, List.set_cons_succ])
                refine wpAnyH_take (i := 12) (oi := { dst := some 49, op := Op.fieldAddr 73 (Operand.tmp 7) 1, type := 0, pos := "l12_run.go:195", after := #[{ on := 6, ground := Ground.guard }], guard := some (6, false) }) (v := ?v5_12) rfl (by kernel_rfl) (by kernel_rfl) (by kernel_rfl) (fun _ _ _ h => h) (Or.inl ⟨by rfl, ?hy5_12⟩) (by assumption) ?r5_12
                case hy5_12 => (intro w hSw; (try dsimp only at hSw); go_simp; try (with_reducible rfl))
                (try simp only [Act.put, List.setIfInBounds_toArray, List.set_cons_zero, List.set_cons_succ])
                refine wpAnyH_take (i := 13) (oi := { dst := some 50, op := Op.load 71 (Operand.tmp 49), type := 71, pos := "l12_run.go:195", after := #[{ on := 12, ground := Ground.data }, { on := 6, ground := Ground.guard }], guard := some (6, false) }) (v := ?v5_13) rfl (by kernel_rfl) (by kernel_rfl) (by kernel_rfl) (fun _ _ _ h => h) (Or.inl ⟨by rfl, ?hy5_13⟩) (by assumption) ?r5_13
                case hy5_13 => (intro w hSw; (try dsimp only at hSw); go_simp; try (with_reducible rfl))
                (try simp only [Act.put, List.setIfInBounds_toArray, List.set_cons_zero, List.set_cons_succ])
                refine wpAnyH_take (i := 14) (oi := { dst := some 51, op := Op.move (Operand.tmp 9), type := 3, pos := "l12_run.go:195", after := #[{ on := 6, ground := Ground.guard }], guard := some (6, false) }) (v := ?v5_14) rfl (by kernel_rfl) (by kernel_rfl) (by kernel_rfl) (fun _ _ _ h => h) (Or.inl ⟨by rfl, ?hy5_14⟩) (by assumption) ?r5_14
                case hy5_14 => (intro w hSw; (try dsimp only at hSw); go_simp; try (with_reducible rfl))
                (try simp only [Act.put, List.setIfInBounds_toArray, List.set_cons_zero, List.set_cons_succ])
                refine wpAnyH_take (i := 15) (oi := { dst := some 52, op := Op.indexAddr 71 (Operand.tmp 50) (Operand.tmp 51), type := 0, pos := "l12_run.go:195", after := #[{ on := 13, ground := Ground.data }, { on := 14, ground := Ground.data }, { on := 6, ground := Ground.guard }], guard := some (6, false) }) (v := ?v5_15) rfl (by kernel_rfl) (by kernel_rfl) (by kernel_rfl) (fun _ _ _ h => h) (Or.inl ⟨by rfl, ?hy5_15⟩) (by assumption) ?r5_15
                case hy5_15 => (intro w hSw; (try dsimp only at hSw); go_simp; try (with_reducible rfl))
                (try simp only [Act.put, List.setIfInBounds_toArray, List.set_cons_zero, List.set_cons_succ])
                refine wpAnyH_take (i := 16) (oi := { dst := some 53, op := Op.load 9 (Operand.tmp 52), type := 9, pos := "l12_run.go:195", after := #[{ on := 15, ground := Ground.data }, { on := 6, ground := Ground.guard }], guard := some (6, false) }) (v := ?v5_16) rfl (by kernel_rfl) (by kernel_rfl) (by kernel_rfl) (fun _ _ _ h => h) (Or.inl ⟨by rfl, ?hy5_16⟩) (by assumption) ?r5_16
                case hy5_16 => (intro w hSw; (try dsimp only at hSw); go_simp; try (with_reducible rfl))
                (try simp only [Act.put, List.setIfInBounds_toArray, List.set_cons_zero, List.set_cons_succ])
                refine wpAnyH_ready (rs := [17]) (by kernel_rfl) (by simp) ?_
                refine AllReadyH.cons (o := { dst := some 54, op := Op.call { callee := Callee.value (Operand.func 82), args := #[Operand.tmp 53], argTypes := #[9] }, type := 4, pos := "l12_run.go:195", after := #[{ on := 16, ground := Ground.data }, { on := 6, ground := Ground.chain }, { on := 6, ground := Ground.guard }], guard := some (6, false) }) rfl (fun K hK => ?_) AllReadyH.nil
                go_simp
                go_at_call 82; (with_reducible refine (Calls.mono (IL.out _)) ?_); rintro e w5 ⟨rfl, b5⟩; (have D4 := Lib.hid (show Below wr.heap.size wr w5 from below_step D3.out b5)); clear b5
                refine hK.out _ _ ?_ (fun hHeld2 => ?_)
                · (try dsimp only); exact KS.out _ D4.out
                clear hK K
                (try simp only [Act.put, List.setIfInBounds_toArray, List.set_cons_zero, List.set_cons_succ])
                refine wpAnyH_take (i := 18) (oi := { dst := some 55, op := Op.binOp BinOp.neq 4 (Operand.tmp 48) (Operand.tmp 54) 4, type := 4, pos := "l12_run.go:195", after := #[{ on := 11, ground := Ground.data }, { on := 17, ground := Ground.data }, { on := 6, ground := Ground.guard }], guard := some (6, false) }) (v := ?v5_18) rfl (by kernel_rfl) (by kernel_rfl) (by kernel_rfl) (fun _ _ _ h => h) (Or.inl ⟨by rfl, ?hy5_18⟩) (by assumption) ?r5_18
                case hy5_18 => (intro w hSw; (try dsimp only at hSw); go_simp; try (with_reducible rfl))
                (try simp only [Act.put, List.setIfInBounds_toArray, List.set_cons_zero, List.set_cons_succ])
                refine wpAnyH_take (i := 19) (oi := { dst := some 56, op := Op.pick (Operand.tmp 43) (Operand.const (Value.bool true)) (Operand.tmp 55), type := 4, pos := "l12_run.go:195", after := #[{ on := 6, ground := Ground.data }, { on := 18, ground := Ground.data }], guard := none }) (v := ?v5_19) rfl (by kernel_rfl) (by kernel_rfl) (by kernel_rfl) (fun _ _ _ h => h) (Or.inl ⟨by rfl, ?hy5_19⟩) (by assumption) ?r5_19
                case hy5_19 => (intro w hSw; (try dsimp only at hSw); go_simp; try (with_reducible rfl))
                (try simp only [Act.put, List.setIfInBounds_toArray, List.set_cons_zero, List.set_cons_succ])
                refine wpAnyH_done (by kernel_rfl) ?_ _
                have BF := Lib.hid (HBW.out.trans (D4.out.mono HBW.out.size))
                go_wp2
                go_ret
                exact ⟨ArgI.ret_b HN.out.symm, BF.out⟩
              | true =>
                have HY := Lib.hid (show kindsV (vs.drop (k + 1)) (fx1.drop (k + 1)) = R by rw [← HAL.out, HST.out, hzl9]; rfl)
                have hzn : (z0 != l) = false := by simp only [bne, hzl9]; rfl
                go_upto_region 7 with fail
                refine wp_region_held_drew (S := (fun w' => w'.cell? ⟨b, o + k * 3, none⟩ = some (.bool z0) ∧ w'.cell? ⟨b, o + k * 3 + 1, none⟩ = some (.int .i64 z1) ∧ w'.cell? ⟨b, o + k * 3 + 2, none⟩ = some (.slice A2 x2.length c2) ∧ w'.cell? ⟨w1.heap.size, 1, none⟩ = some (.slice (some ⟨b7, o7, none⟩) fx1.length d1) ∧ w'.cell? ⟨b7, o7 + k, none⟩ = some (.string p))) (by kernel_rfl) ?_ (fun hHeld => ?_)
                · (try dsimp only); exact KS.out _ (Below.refl _ _).drew
                refine wpAnyH_take (i := 0) (oi := { dst := some 37, op := Op.move (Operand.tmp 2), type := 28, pos := "l12_run.go:195", after := #[], guard := none }) (v := ?v6_0) rfl (by kernel_rfl) (by kernel_rfl) (by kernel_rfl) (fun _ _ _ h => h) (Or.inl ⟨by rfl, ?hy6_0⟩) (by assumption) ?r6_0
                case hy6_0 => (intro w hSw; (try dsimp only at hSw); go_simp; try (with_reducible rfl))
                (try simp only [Act.put, List.setIfInBounds_toArray, List.set_cons_zero, List.set_cons_succ])
                refine wpAnyH_take (i := 1) (oi := { dst := some 38, op := Op.move (Operand.tmp 9), type := 3, pos := "l12_run.go:195", after := #[], guard := none }) (v := ?v6_1) rfl (by kernel_rfl) (by kernel_rfl) (by kernel_rfl) (fun _ _ _ h => h) (Or.inl ⟨by rfl, ?hy6_1⟩) (by assumption) ?r6_1
                case hy6_1 => (intro w hSw; (try dsimp only at hSw); go_simp; try (with_reducible rfl))
                (try simp only [Act.put, List.setIfInBounds_toArray, List.set_cons_zero, List.set_cons_succ])
                refine wpAnyH_take (i := 2) (oi := { dst := some 39, op := Op.indexAddr 28 (Operand.tmp 37) (Operand.tmp 38), type := 0, pos := "l12_run.go:195", after := #[{ on := 0, ground := Ground.data }, { on := 1, ground := Ground.data }], guard := none }) (v := ?v6_2) rfl (by kernel_rfl) (by kernel_rfl) (by kernel_rfl) (fun _ _ _ h => h) (Or.inl ⟨by rfl, ?hy6_2⟩) (by assumption) ?r6_2
                case hy6_2 => (intro w hSw; (try dsimp only at hSw); go_simp; try (with_reducible rfl))
                (try simp only [Act.put, List.setIfInBounds_toArray, List.set_cons_zero, List.set_cons_succ])
                refine wpAnyH_take (i := 3) (oi := { dst := some 40, op := Op.load 33 (Operand.tmp 39), type := 33, pos := "l12_run.go:195", after := #[{ on := 2, ground := Ground.data }], guard := none }) (v := ?v6_3) rfl (by kernel_rfl) (by kernel_rfl) (by kernel_rfl) (fun _ _ _ h => h) (Or.inl ⟨by rfl, ?hy6_3⟩) (by assumption) ?r6_3
                case hy6_3 => (intro w hSw; (try dsimp only at hSw); go_simp; try (with_reducible rfl))
                (try simp only [Act.put, List.setIfInBounds_toArray, List.set_cons_zero, List.set_cons_succ])
                refine wpAnyH_ready (rs := [4]) (by kernel_rfl) (by simp) ?_
                refine AllReadyH.cons (o := { dst := some 41, op := Op.call { callee := Callee.value (Operand.func 16), args := #[Operand.tmp 40], argTypes := #[33] }, type := 4, pos := "l12_run.go:195", after := #[{ on := 3, ground := Ground.data }], guard := none }) rfl (fun K hK => ?_) AllReadyH.nil
                go_simp
                go_at_call 16; (with_reducible refine (Calls.mono (IV.out _ (Below.refl _ _).drew)) ?_); rintro e w4 ⟨rfl, b4⟩; (have D3 := Lib.hid (show Below wr.heap.size wr w4 from (Below.refl _ _).drew.trans b4)); clear b4
                refine hK.out _ _ ?_ (fun hHeld2 => ?_)
                · (try dsimp only); exact KS.out _ D3.out
                clear hK K
                (try simp only [Act.put, List.setIfInBounds_toArray, List.set_cons_zero, List.set_cons_succ])
                refine wpAnyH_take (i := 5) (oi := { dst := some 42, op := Op.unOp UnOp.not 4 (Operand.tmp 41), type := 4, pos := "l12_run.go:195", after := #[{ on := 4, ground := Ground.data }], guard := none }) (v := ?v6_5) rfl (by kernel_rfl) (by kernel_rfl) (by kernel_rfl) (fun _ _ _ h => h) (Or.inl ⟨by rfl, ?hy6_5⟩) (by assumption) ?r6_5
                case hy6_5 => (intro w hSw; (try dsimp only at hSw); go_simp; try (with_reducible rfl))
                (try simp only [Act.put, List.setIfInBounds_toArray, List.set_cons_zero, List.set_cons_succ])
                refine wpAnyH_take (i := 6) (oi := { dst := some 43, op := Op.move (Operand.tmp 42), type := 4, pos := "l12_run.go:195", after := #[{ on := 5, ground := Ground.data }, { on := 4, ground := Ground.chain }], guard := none }) (v := ?v6_6) rfl (by kernel_rfl) (by kernel_rfl) (by kernel_rfl) (fun _ _ _ h => h) (Or.inl ⟨by rfl, ?hy6_6⟩) (by assumption) ?r6_6
                case hy6_6 => (intro w hSw; (try dsimp only at hSw); go_simp; try (with_reducible rfl))
                (try simp only [Act.put, List.setIfInBounds_toArray, List.set_cons_zero, List.set_cons_succ])
                refine wpAnyH_take (i := 7) (oi := { dst := some 44, op := Op.move (Operand.tmp 2), type := 28, pos := "l12_run.go:195", after := #[{ on := 6, ground := Ground.guard }], guard := some (6, false) }) (v := ?v6_7) rfl (by kernel_rfl) (by kernel_rfl) (by kernel_rfl) (fun _ _ _ h => h) (Or.inl ⟨by rfl, ?hy6_7⟩) (by assumption) ?r6_7
                case hy6_7 => (intro w hSw; (try dsimp only at hSw); go_simp; try (with_reducible rfl))
                (try simp only [Act.put, List.setIfInBounds_toArray, List.set_cons_zero, List.set_cons_succ])
                refine wpAnyH_take (i := 8) (oi := { dst := some 45, op := Op.move (Operand.tmp 9), type := 3, pos := "l12_run.go:195", after := #[{ on := 6, ground := Ground.guard }], guard := some (6, false) }) (v := ?v6_8) rfl (by kernel_rfl) (by kernel_rfl) (by kernel_rfl) (fun _ _ _ h => h) (Or.inl ⟨by rfl, ?hy6_8⟩) (by assumption) ?r6_8
                case hy6_8 => (intro w hSw; (try dsimp only at hSw); go_simp; try (with_reducible rfl))
                (try simp only [Act.put, List.setIfInBounds_toArray, List.set_cons_zero, List.set_cons_succ])
                refine wpAnyH_take (i := 9) (oi := { dst := some 46, op := Op.indexAddr 28 (Operand.tmp 44) (Operand.tmp 45), type := 0, pos := "l12_run.go:195", after := #[{ on := 7, ground := Ground.data }, { on := 8, ground := Ground.data }, { on := 6, ground := Ground.guard }], guard := some (6, false) }) (v := ?v6_9) rfl (by kernel_rfl) (by kernel_rfl) (by kernel_rfl) (fun _ _ _ h => h) (Or.inl ⟨by rfl, ?hy6_9⟩) (by assumption) ?r6_9
                case hy6_9 => (intro w hSw; (try dsimp only at hSw); go_simp; try (with_reducible rfl))
                (try simp only [Act.put, List.setIfInBounds_toArray, List.set_cons_zero, List.set_cons_succ])
                refine wpAnyH_take (i := 10) (oi := { dst := some 47, op := Op.fieldAddr 33 (Operand.tmp 46) 0, type := 0, pos := "l12_run.go:195", after := #[{ on := 9, ground := Ground.data }, { on := 6, ground := Ground.guard }], guard := some (6, false) }) (v := ?v6_10) rfl (by kernel_rfl) (by kernel_rfl) (by kernel_rfl) (fun _ _ _ h => h) (Or.inl ⟨by rfl, ?hy6_10⟩) (by assumption) ?r6_10
                case hy6_10 => (intro w hSw; (try dsimp only at hSw); go_simp; try (with_reducible rfl))
                (try simp only [Act.put, List.setIfInBounds_toArray, List.set_cons_zero, List.set_cons_succ])
                refine wpAnyH_take (i := 11) (oi := { dst := some 48, op := Op.load 4 (Operand.tmp 47), type := 4, pos := "l12_run.go:195", after := #[{ on := 10, ground := Ground.data }, { on := 6, ground := Ground.guard }], guard := some (6, false) }) (v := ?v6_11) rfl (by kernel_rfl) (by kernel_rfl) (by kernel_rfl) (fun _ _ _ h => h) (Or.inl ⟨by rfl, ?hy6_11⟩) (by assumption) ?r6_11
                case hy6_11 => (intro w hSw; (try dsimp only at hSw); go_simp; try (with_reducible rfl))
                (try simp only [Act.put, List.setIfInBounds_toArray, List.set_cons_zero, List.set_cons_succ])
                refine wpAnyH_take (i := 12) (oi := { dst := some 49, op := Op.fieldAddr 73 (Operand.tmp 7) 1, type := 0, pos := "l12_run.go:195", after := #[{ on := 6, ground := Ground.guard }], guard := some (6, false) }) (v := ?v6_12) rfl (by kernel_rfl) (by kernel_rfl) (by kernel_rfl) (fun _ _ _ h => h) (Or.inl ⟨by rfl, ?hy6_12⟩) (by assumption) ?r6_12
                case hy6_12 => (intro w hSw; (try dsimp only at hSw); go_simp; try (with_reducible rfl))
                (try simp only [Act.put, List.setIfInBounds_toArray, List.set_cons_zero, List.set_cons_succ])
                refine wpAnyH_take (i := 13) (oi := { dst := some 50, op := Op.load 71 (Operand.tmp 49), type := 71, pos := "l12_run.go:195", after := #[{ on := 12, ground := Ground.data }, { on := 6, ground := Ground.guard }], guard := some (6, false) }) (v := ?v6_13) rfl (by kernel_rfl) (by kernel_rfl) (by kernel_rfl) (fun _ _ _ h => h) (Or.inl ⟨by rfl, ?hy6_13⟩) (by assumption) ?r6_13
                case hy6_13 => (intro w hSw; (try dsimp only at hSw); go_simp; try (with_reducible rfl))
                (try simp only [Act.put, List.setIfInBounds_toArray, List.set_cons_zero, List.set_cons_succ])
                refine wpAnyH_take (i := 14) (oi := { dst := some 51, op := Op.move (Operand.tmp 9), type := 3, pos := "l12_run.go:195", after := #[{ on := 6, ground := Ground.guard }], guard := some (6, false) }) (v := ?v6_14) rfl (by kernel_rfl) (by kernel_rfl) (by kernel_rfl) (fun _ _ _ h => h) (Or.inl ⟨by rfl, ?hy6_14⟩) (by assumption) ?r6_14
                case hy6_14 => (intro w hSw; (try dsimp only at hSw); go_simp; try (with_reducible rfl))
                (try simp only [Act.put, List.setIfInBounds_toArray, List.set_cons_zero, List.set_cons_succ])
                refine wpAnyH_take (i := 15) (oi := { dst := some 52, op := Op.indexAddr 71 (Operand.tmp 50) (Operand.tmp 51), type := 0, pos := "l12_run.go:195", after := #[{ on := 13, ground := Ground.data }, { on := 14, ground := Ground.data }, { on := 6, ground := Ground.guard }], guard := some (6, false) }) (v := ?v6_15) rfl (by kernel_rfl) (by kernel_rfl) (by kernel_rfl) (fun _ _ _ h => h) (Or.inl ⟨by rfl, ?hy6_15⟩) (by assumption) ?r6_15
                case hy6_15 => (intro w hSw; (try dsimp only at hSw); go_simp; try (with_reducible rfl))
                (try simp only [Act.put, List.setIfInBounds_toArray, List.set_cons_zero, List.set_cons_succ])
                refine wpAnyH_take (i := 16) (oi := { dst := some 53, op := Op.load 9 (Operand.tmp 52), type := 9, pos := "l12_run.go:195", after := #[{ on := 15, ground := Ground.data }, { on := 6, ground := Ground.guard }], guard := some (6, false) }) (v := ?v6_16) rfl (by kernel_rfl) (by kernel_rfl) (by kernel_rfl) (fun _ _ _ h => h) (Or.inl ⟨by rfl, ?hy6_16⟩) (by assumption) ?r6_16
                case hy6_16 => (intro w hSw; (try dsimp only at hSw); go_simp; try (with_reducible rfl))
                (try simp only [Act.put, List.setIfInBounds_toArray, List.set_cons_zero, List.set_cons_succ])
                refine wpAnyH_ready (rs := [17]) (by kernel_rfl) (by simp) ?_
                refine AllReadyH.cons (o := { dst := some 54, op := Op.call { callee := Callee.value (Operand.func 82), args := #[Operand.tmp 53], argTypes := #[9] }, type := 4, pos := "l12_run.go:195", after := #[{ on := 16, ground := Ground.data }, { on := 6, ground := Ground.chain }, { on := 6, ground := Ground.guard }], guard := some (6, false) }) rfl (fun K hK => ?_) AllReadyH.nil
                go_simp
                go_at_call 82; (with_reducible refine (Calls.mono (IL.out _)) ?_); rintro e w5 ⟨rfl, b5⟩; (have D4 := Lib.hid (show Below wr.heap.size wr w5 from below_step D3.out b5)); clear b5
                refine hK.out _ _ ?_ (fun hHeld2 => ?_)
                · (try dsimp only); exact KS.out _ D4.out
                clear hK K
                (try simp only [Act.put, List.setIfInBounds_toArray, List.set_cons_zero, List.set_cons_succ])
                refine wpAnyH_take (i := 18) (oi := { dst := some 55, op := Op.binOp BinOp.neq 4 (Operand.tmp 48) (Operand.tmp 54) 4, type := 4, pos := "l12_run.go:195", after := #[{ on := 11, ground := Ground.data }, { on := 17, ground := Ground.data }, { on := 6, ground := Ground.guard }], guard := some (6, false) }) (v := ?v6_18) rfl (by kernel_rfl) (by kernel_rfl) (by kernel_rfl) (fun _ _ _ h => h) (Or.inl ⟨by rfl, ?hy6_18⟩) (by assumption) ?r6_18
                case hy6_18 => (intro w hSw; (try dsimp only at hSw); go_simp; try (with_reducible rfl))
                (try simp only [Act.put, List.setIfInBounds_toArray, List.set_cons_zero, List.set_cons_succ])
                refine wpAnyH_take (i := 19) (oi := { dst := some 56, op := Op.pick (Operand.tmp 43) (Operand.const (Value.bool true)) (Operand.tmp 55), type := 4, pos := "l12_run.go:195", after := #[{ on := 6, ground := Ground.data }, { on := 18, ground := Ground.data }], guard := none }) (v := ?v6_19) rfl (by kernel_rfl) (by kernel_rfl) (by kernel_rfl) (fun _ _ _ h => h) (Or.inl ⟨by rfl, ?hy6_19⟩) (by assumption) ?r6_19
                case hy6_19 => (intro w hSw; (try dsimp only at hSw); go_simp; try (with_reducible rfl))
                (try simp only [Act.put, List.setIfInBounds_toArray, List.set_cons_zero, List.set_cons_succ])
                refine wpAnyH_done (by kernel_rfl) ?_ _
                have BF := Lib.hid (HB.out.trans (D4.out.mono HB.out.size))
                go_wp2
                go_roundw
                case rel => exact ⟨k + 1, by omega, by go_num, HY, BF.out⟩
                case measure => simp [intOf]; omega
          · obtain rfl : k = vs.length := by omega
            have HT := Lib.hid (show R = true by rw [← HAL.out, List.drop_length]; rfl)
            go_wp2
            go_ret
            exact ⟨ArgI.ret_b HT.out.symm, HBW.out⟩
      · have hne : ((vs.length : Int) != (fx1.length : Int)) = true := by simp; omega
        have HN := Lib.hid (show R = false by rw [HRR.out, HFO.out]; show (if argsOk fx1 vs then _ else _ : Option FunctionT).isSome = _; rw [ok_len hlen]; rfl)
        go_wp2
        go_ret
        exact ⟨ArgI.ret_b HN.out.symm, B3.out⟩
end RunS
end Go.Proofs.YtgpjgjjadhmkhaaGreat

/-
  Runs: preconditions, of the model (made by tools/s12f.py).
-/
namespace Go.Proofs.YtgpjgjjadhmkhaaGreat
open Go.RowKit
namespace RunS
open RowK Mem ProgM ProgI ValM RunM
set_option maxHeartbeats 4000000 in
set_option maxRecDepth 100000 in
theorem sizes (C : Option Addr) (e0 : Nat) (vs : List ValueT) (w : World) (hV : ArgS valu w C vs.length e0 vs) (hxl : vs.length ≤ 9000000) :
    Calls Tryz.prog 51 #[.slice C vs.length e0] w fun e w' => ∃ D d, e = .returned (.slice D (sizesV vs).length d) ∧ Row w.heap.size w'.heap.size w' D (IntK.iv (sizesV vs)) ∧ Below w.heap.size w w' := by
  obtain ⟨i0, hi, hz0, hz1, hz2⟩ := info_parts IntK.intInfo
  have HV := Lib.hid hV
  clear hV
  go_enter Tryz.func51, Tryz.ntmps51
  go_wp2
  go_loopw [3, 4] (fun v i wr => ∃ (k : Nat) (done : List Int), k ≤ vs.length ∧ i = .int .i64 k ∧ Hid (done = sizesV (vs.take k)) ∧ Hid (done.length = k) ∧
      wr.ownsRow w.heap.size 3 1 v done.length (IntK.iv done) ∧ Below w.heap.size w wr) (fun _ i _ => vs.length - (intOf i).toNat)
  case atStart => exact ⟨0, [], Nat.zero_le _, rfl, Lib.hid rfl, Lib.hid rfl, ⟨by simp [IntK.iv], Or.inr ⟨_, 0, #[], rfl, Nat.le_refl _, heap_alloc_new _ _, by simp, by simp, by simp, by simp [IntK.iv]⟩⟩, (Below.refl _ _).alloc (Nat.le_refl _) _⟩
  case round =>
    obtain ⟨k, done, hk, rfl, hdone, hcnt, hown, hb⟩ := hrel
    have hsz := hb.size
    by_cases hlt : k < vs.length
    · obtain ⟨b, o, A2, c2, rfl, hbb, g0, g1, g2, r2⟩ := (HV.out.below hb).valu_at hlt
      have HS := Lib.hid (fun W => ValS.size vs[k].1 vs[k].2.1 A2 c2 _ vs[k].2.2 rfl W)
      have HD : Hid (done ++ [sizeV vs[k].1 vs[k].2.1 vs[k].2.2] = sizesV (vs.take (k + 1))) := Lib.hid (by rw [hdone.out]; unfold sizesV; rw [List.take_succ_eq_append_getElem hlt, List.map_append]; rfl)
      generalize vs[k] = x at *
      obtain ⟨z0, z1, x2⟩ := x
      simp only at g0 g1 g2 HS HD
      have hi0 : (0 : Int) ≤ (k : Int) := by omega
      have hi1 : (k : Int) < (vs.length : Int) := by omega
      generalize sizeV z0 z1 x2 = s at *
      have HO := Lib.hid hown
      have HB := Lib.hid hb
      clear hown hb r2
      go_wp2_with fail
      refine (Calls.mono (HS.out _)) ?_
      rintro e w3 ⟨rfl, b3⟩
      have bw : Below wr.heap.size wr w3 := by first | exact b3 | exact (Below.refl wr.heap.size wr).drew.trans b3 | exact (below_drewN (Below.refl wr.heap.size wr) _).trans b3
      have hown3 := RunI.own_below HO.out bw
      have hb3 : Below w.heap.size w w3 := HB.out.trans (bw.mono HB.out.size)
      have hsz3 := hb3.size
      have hdl : done.length ≤ 9000000 := by have := hcnt.out; omega
      clear b3 bw
      go_wp2_with (at_builtin; refine wpList_append_own _ rfl (.tmp 12) (.tmp 18) 31 rfl w.heap.size 3 i0 (.int .i64 0) 1 8 Tryz.underlying31 hi hz0 hz1 hz2 rfl (by decide) _ _ _ rfl (hown3.alloc _) ⟨w3.heap.size, 0, none⟩ 1 1 [.int .i64 s] rfl rfl (cell_one_new _ _ _) (by simp [Value.oneCell']) (by unfold maxLen; omega) (by omega) (by simp <;> omega) ?_; intro v4 w4 hown4 hgrow _)
      have hb4 : Below w.heap.size w w4 := (hb3.alloc hb3.size _).grown hgrow (by simp <;> omega) (fun j hj => (hown3.lt j hj).1)
      have hown5 : w4.ownsRow w.heap.size 3 1 v4 (done ++ [s]).length (IntK.iv (done ++ [s])) := by simpa [IntK.iv] using hown4
      have HL4 : Hid ((done ++ [s]).length = k + 1) := Lib.hid (by rw [List.length_append, hcnt.out]; rfl)
      clear hown4 hown3
      go_wp2
      go_roundw
      case rel => exact ⟨k + 1, done ++ [s], by omega, by go_num, HD, HL4, hown5, hb4⟩
      case measure => simp [intOf]; omega
    · obtain rfl : k = vs.length := by omega
      have hfin : done = sizesV vs := by rw [hdone.out, List.take_length]
      go_wp2
      go_ret
      subst hfin
      obtain ⟨A', cap, rfl, h1, h2, h3, h4⟩ := of_own hown
      exact ⟨A', cap, rfl, h1, hb⟩
set_option maxHeartbeats 4000000 in
set_option maxRecDepth 100000 in
theorem meets (A B : Option Addr) (c d : Nat) (fs : List FunctionT) (rs : List RuleT) (nm : ByteArray) (C : Option Addr) (e0 : Nat) (vs : List ValueT) (w : World) (hA : ArgR prg w [.slice A fs.length c, .slice B rs.length d] (fs, rs)) (hl : szProgramU (fs, rs) ≤ 9000000) (hV : ArgS valu w C vs.length e0 vs) (hvl : vs.length + szs szValueU vs ≤ 9000000) :
    Calls Tryz.prog 21 #[.agg #[.slice A fs.length c, .slice B rs.length d], .string nm, .slice C vs.length e0] w fun e w' => e = .returned (.bool (meetsM fs rs nm vs)) ∧ Below w.heap.size w w' := by
  have b0 : Below w.heap.size w (w.alloc (Obj.cells #[Value.slice A fs.length c, Value.slice B rs.length d] 27)) := (Below.refl _ _).alloc (Nat.le_refl _) _
  have B0 := Lib.hid b0
  have V0 := Lib.hid (Lvar.new w #[Value.slice A fs.length c, Value.slice B rs.length d] 27)
  have FA := Lib.hid (args A B c d fs rs nm C e0 vs _ (hA.below b0) hl (hV.below b0) hvl)
  have hff : fs.length + szs szFunctionU fs ≤ 9000000 := by simp only [szProgramU] at hl; omega
  have FF := Lib.hid (fun W (h : Below w.heap.size w W) => ProgS.find A B rs.length c d fs nm W ((arg_prg hA).1.below h) (by omega))
  have HFS := Lib.hid (find_small (nm := nm) hff)
  have hxl : vs.length ≤ 9000000 := by omega
  have SZ := Lib.hid (fun W (h : Below w.heap.size w W) => sizes C e0 vs W (hV.below h) hxl)
  clear b0 hA hl hV hvl hff
  cases ho : forM fs rs nm vs with
  | none =>
    have HR := Lib.hid (RunI.meets_none ho)
    rw [ho] at FA
    go_enter Tryz.func21, Tryz.ntmps21
    go_wp2_with fail
    refine (Calls.mono FA.out) ?_
    rintro e w1 ⟨rfl, b1⟩
    have B1 := Lib.hid (below_step B0.out b1)
    go_wp2
    go_ret
    exact ⟨ArgI.ret_b HR.out.symm, B1.out⟩
  | some g =>
    obtain ⟨fz0, fx1, fz2, fx3⟩ := g
    have HR := Lib.hid (RunI.meets_some ho)
    have HF := Lib.hid (RunI.for_find ho).2.1
    have hlen := RunI.for_len ho
    have HLEN := Lib.hid (show vs.length = fx1.length from hlen)
    clear hlen
    rw [ho] at FA
    rw [HF.out] at HFS
    have hfl : fx3.length + szs szLin fx3 ≤ 9000000 := by have := HFS.out; simp only [Option.getD_some, szFunctionU] at this; omega
    have HFL := Lib.hid hfl
    clear HFS hfl
    go_enter Tryz.func21, Tryz.ntmps21
    go_wp2_with fail
    refine (Calls.mono FA.out) ?_
    rintro e w1 ⟨rfl, b1⟩
    have B1 := Lib.hid (below_step B0.out b1)
    have V1 := V0.out.below b1
    have cv0 := V1.cell 0 _ rfl
    have cv1 := V1.cell 1 _ rfl
    have FW := FF.out _ B1.out
    rw [HF.out] at FW
    have FW := Lib.hid FW
    clear b1 V1
    go_wp2_with fail
    refine (Calls.mono FW.out) ?_
    rintro e w2 ⟨D1, d1, D3, d3, rfl, o2, b2⟩
    have B2 := Lib.hid (below_step B1.out b2)
    have O2 := Lib.hid (show OwnR fn _ w2.heap.size w2 [.string fz0, .slice D1 fx1.length d1, .bool fz2, .slice D3 fx3.length d3] (fz0, fx1, fz2, fx3) from o2)
    simp only [Option.getD_some, Option.isSome_some]
    have P3 := Lib.hid (show ArgS Mem.lin w2 D3 fx3.length d3 fx3 by obtain ⟨q, fp, h⟩ := O2.out.arg; obtain ⟨f1, f3, _, _, h3⟩ := fn_parts h; exact ⟨q, f3, h3⟩)
    have b3 : Below w2.heap.size w2 (w2.alloc (Obj.cells #[Value.string fz0, Value.slice D1 fx1.length d1, Value.bool fz2, Value.slice D3 fx3.length d3] 73)) := (Below.refl _ _).alloc (Nat.le_refl _) _
    have F3 := Lib.hid (Lvar.new w2 #[Value.string fz0, Value.slice D1 fx1.length d1, Value.bool fz2, Value.slice D3 fx3.length d3] 73)
    have B3 := Lib.hid (B2.out.trans (b3.mono B2.out.size))
    have P3 := Lib.hid (P3.out.below b3)
    clear b2 o2 b3 cv0 cv1
    go_upto_region 4 with fail
    generalize w2.alloc (Obj.cells #[Value.string fz0, Value.slice D1 fx1.length d1, Value.bool fz2, Value.slice D3 fx3.length d3] 73) = w3 at *
    have cf1 := F3.out.cell 1 _ rfl
    have cf3 := F3.out.cell 3 _ rfl
    have SZ3 := Lib.hid (fun W (h : Below w3.heap.size w3 W) => SZ.out W (B3.out.trans (h.mono B3.out.size)))
    have SAT := Lib.hid (fun W (h : Below w3.heap.size w3 W) (lo hi : Nat) (D : Option Addr) (dd : Nat) (hr : Row lo hi W D (IntK.iv (sizesV vs))) => (show Calls Tryz.prog 23 #[.agg #[.int .i64 (fx1.length : Int), .slice D3 fx3.length d3], .slice D (sizesV vs).length dd] W fun e w' => e = .returned (.bool (SysS.satB fx1.length fx3 (sizesV vs))) ∧ Below W.heap.size W w' by
      obtain ⟨q, fp, h3⟩ := P3.out.below h
      exact SysS.satisfies q fp lo hi (fx1.length : Int) D3 D d3 dd fx3 (sizesV vs) W h3 (by rw [linsSize_szs]; have := HFL.out; omega) hr (by rw [RunI.sizes_len]; omega)))
    have HFI := Lib.hid (show SysS.satB fx1.length fx3 (sizesV vs) = meetsM fs rs nm vs by rw [HR.out, ← HLEN.out])
    have CF := Lib.hid (fun W (h : Below w3.heap.size w3 W) => (show W.cell? ⟨w2.heap.size, 1, none⟩ = some (Value.slice D1 fx1.length d1) ∧ W.cell? ⟨w2.heap.size, 3, none⟩ = some (Value.slice D3 fx3.length d3) from ⟨(F3.out.below h).cell 1 _ rfl, (F3.out.below h).cell 3 _ rfl⟩))
    clear SZ HR ho FA FW FF HF V0 P3
    go_region_law (go_simp; first
      | (go_at_call 51; (with_reducible refine (Calls.mono (SZ3.out _ (by first | exact (Below.refl _ _).drew | exact below_drewN (Below.refl _ _) _))) ?_); rintro e w4 ⟨D, dd, rfl, r4, b4⟩; have B4 := Lib.hid (show Below w3.heap.size w3 w4 from (by first | exact (Below.refl _ _).drew.trans b4 | exact (below_drewN (Below.refl _ _) _).trans b4)); have c4 := CF.out _ B4.out; have cg1 := c4.1; have cg3 := c4.2; clear b4 c4)
      | (go_at_call 23; (with_reducible refine (Calls.mono (SAT.out _ B4.out _ _ _ _ r4)) ?_); rintro e w5 ⟨rfl, b5⟩; have B5 := Lib.hid (show Below w3.heap.size w3 w5 from below_step B4.out b5); clear b5))
    all_goals
      have BF := Lib.hid (B3.out.trans (B5.out.mono B3.out.size))
      go_wp2
      go_ret
      exact ⟨ArgI.ret_b HFI.out, BF.out⟩
end RunS
end Go.Proofs.YtgpjgjjadhmkhaaGreat
