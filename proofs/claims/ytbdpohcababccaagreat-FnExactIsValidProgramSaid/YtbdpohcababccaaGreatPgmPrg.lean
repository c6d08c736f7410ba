import Derived.Test.YtbdpohcababccaaGreatPgmEv
import Derived.Test.YtbdpohcababccaaGreatPgmArg0
/-
  Programs: validity (made by tools/s10p.py): of the program.
-/
namespace Go.Proofs.YtbdpohcababccaaGreat
open Go.RowKit
namespace ProgI
open RowK Mem ProgM
set_option maxHeartbeats 4000000 in
set_option maxRecDepth 100000 in
theorem validParams (A : Option Addr) (c : Nat) (ss : List ByteArray) (w : World) (hA : ArgS Rep.str w A ss.length c ss) (hl : ss.length + szs szStr ss ≤ 9000000) :
    Calls Tryz.prog 74 #[.slice A ss.length c] w fun e w' => e = .returned (.bool (paramsV ss)) ∧ Below w.heap.size w w' := by
  have eg : ∀ args W, (callFunc 92 args).run Tryz.prog W = .ok (.enter 92 args) W := enters_of Tryz.func92 (by kernel_rfl) rfl
  have DI := Lib.hid (by
    obtain ⟨q, fp, h9⟩ := hA
    exact NameS.implDistinct A c ss w (strs_open h9).1 (by omega))
  have EV := Lib.hid (fun W (h : Below w.heap.size w W) => everyStr 92 #[] eg NameM.validName A c ss W (hA.below h) hl (fun x W2 h2 hx => by
    have := NameS.implValid x W2 (by unfold maxLen; omega)
    simpa using this))
  have HO := Lib.hid (show paramsV ss = (decide (ss.length ≤ 2) && (NameS.dist ss && ss.all NameM.validName)) from rfl)
  generalize paramsV ss = R at *
  generalize NameS.dist ss = t1 at *
  generalize ss.all NameM.validName = t2 at *
  clear hA hl eg
  by_cases n2 : ss.length ≤ 2
  · have hq : decide ((ss.length : Int) ≤ 2) = true := decide_eq_true (by omega)
    cases t1 with
    | false =>
      have HF := Lib.hid (show R = false by rw [HO.out]; simp)
      go_enter Tryz.func74, Tryz.ntmps74
      go_wp2_with fail
      refine (Calls.mono DI.out) ?_
      rintro e w1 ⟨rfl, b1⟩
      have B1 := Lib.hid b1
      clear b1
      go_wp2
      go_ret
      exact ⟨ArgI.ret_b HF.out.symm, B1.out⟩
    | true =>
      have HF := Lib.hid (show R = t2 by rw [HO.out, decide_eq_true n2]; rfl)
      go_enter Tryz.func74, Tryz.ntmps74
      go_wp2_with fail
      refine (Calls.mono DI.out) ?_
      rintro e w1 ⟨rfl, b1⟩
      have EV1 := Lib.hid (EV.out w1 b1)
      have B1 := Lib.hid b1
      clear b1
      go_wp2_with fail
      refine (Calls.mono EV1.out) ?_
      rintro e w2 ⟨rfl, b2⟩
      have B2 := Lib.hid (below_step B1.out b2)
      clear b2
      go_wp2
      go_ret
      exact ⟨ArgI.ret_b HF.out.symm, B2.out⟩
  · have hq : decide ((ss.length : Int) ≤ 2) = false := decide_eq_false (by omega)
    have HF := Lib.hid (show R = false by rw [HO.out, decide_eq_false n2]; rfl)
    go_enter Tryz.func74, Tryz.ntmps74
    go_wp2
    go_ret
    exact ⟨ArgI.ret_b HF.out.symm, Below.refl _ _⟩
set_option maxHeartbeats 4000000 in
set_option maxRecDepth 100000 in
theorem linIn (b : Nat) (u0 : ByteArray) (B1 : Option Addr) (d1 : Nat) (y1 : List ByteArray) (u2 : Bool) (v3 : Value) (z0 : Int) (A1 : Option Addr) (c1 : Nat) (x1 : List Int) (lo hi : Nat) (w : World) (hV : Lvar w b #[.string u0, .slice B1 y1.length d1, .bool u2, v3]) (hA : Row lo hi w A1 (IntK.iv x1)) (hl : x1.length ≤ 9000000) :
    Calls Tryz.prog 76 #[.agg #[.int .i64 z0, .slice A1 x1.length c1], .pointer (some ⟨b, 0, none⟩)] w fun e w' => e = .returned (.bool (LinM.vldB z0 x1 (y1.length : Int))) ∧ Below w.heap.size w w' := by
  have b0 : Below w.heap.size w (w.alloc (Obj.cells #[Value.int .i64 z0, Value.slice A1 x1.length c1] 125)) := (Below.refl _ _).alloc (Nat.le_refl _) _
  have q1 : w.cell? ⟨b, 1, none⟩ = some (.slice B1 y1.length d1) := hV.cell 1 _ rfl
  have hbl := hV.lt
  have VL := Lib.hid (LinI.valid lo hi z0 A1 c1 x1 (y1.length : Int) _ (hA.below b0) (by omega))
  have B0 := Lib.hid b0
  clear hA hV b0
  go_enter Tryz.func76, Tryz.ntmps76
  go_wp2_with fail
  refine (Calls.mono VL.out) ?_
  rintro e w1 ⟨rfl, b1⟩
  have B1 := Lib.hid (below_step B0.out b1)
  clear b1
  go_wp2
  go_ret
  exact ⟨rfl, B1.out⟩
set_option maxHeartbeats 4000000 in
set_option maxRecDepth 100000 in
theorem validFn (z0 : ByteArray) (A1 : Option Addr) (c1 : Nat) (x1 : List ByteArray) (z2 : Bool) (A3 : Option Addr) (c3 : Nat) (x3 : List (Int × List Int)) (w : World) (h1 : ArgS Rep.str w A1 x1.length c1 x1) (h3 : ArgS Mem.lin w A3 x3.length c3 x3) (hl : szFunctionU (z0, x1, z2, x3) ≤ 9000000) :
    Calls Tryz.prog 29 #[.agg #[.string z0, .slice A1 x1.length c1, .bool z2, .slice A3 x3.length c3]] w fun e w' => e = .returned (.bool (fnV (z0, x1, z2, x3))) ∧ Below w.heap.size w w' := by
  have eg : ∀ args W, (callFunc 76 args).run Tryz.prog W = .ok (.enter 76 args) W := enters_of Tryz.func76 (by kernel_rfl) rfl
  simp only [szFunctionU] at hl
  have b0 : Below w.heap.size w (w.alloc (Obj.cells #[Value.string z0, Value.slice A1 x1.length c1, Value.bool z2, Value.slice A3 x3.length c3] 41)) := (Below.refl _ _).alloc (Nat.le_refl _) _
  have V0 := Lvar.new w #[Value.string z0, Value.slice A1 x1.length c1, Value.bool z2, Value.slice A3 x3.length c3] 41
  have EN := Lib.hid (fun W => ArgI.intName z0 (by omega) W)
  have EP := Lib.hid (fun W (h : Below w.heap.size w W) => validParams A1 c1 x1 W (h1.below h) (by omega))
  have EV := Lib.hid (fun W (h : Below (w.alloc (Obj.cells #[Value.string z0, Value.slice A1 x1.length c1, Value.bool z2, Value.slice A3 x3.length c3] 41)).heap.size (w.alloc (Obj.cells #[Value.string z0, Value.slice A1 x1.length c1, Value.bool z2, Value.slice A3 x3.length c3] 41)) W) => everyLin 76 #[.pointer (some ⟨w.heap.size, 0, none⟩)] eg (fun l => LinM.vldB l.1 l.2 (x1.length : Int)) A3 c3 x3 W (h3.below (below_step b0 h)) (by omega) (fun y0 B1 d1 y1 lo hi W2 h2 hr hy => linIn w.heap.size z0 A1 c1 x1 z2 _ y0 B1 d1 y1 lo hi W2 ((V0.below h).below h2) hr hy))
  have B0 := Lib.hid b0
  have HV := Lib.hid V0
  have HO := Lib.hid (show fnV (z0, x1, z2, x3) = (ArgM.intName z0 && (paramsV x1 && (decide (x3.length ≤ 2) && x3.all fun l => LinM.vldB l.1 l.2 (x1.length : Int)))) from rfl)
  generalize fnV (z0, x1, z2, x3) = R at *
  generalize ArgM.intName z0 = t0 at *
  generalize paramsV x1 = t1 at *
  generalize (x3.all fun l => LinM.vldB l.1 l.2 (x1.length : Int)) = t2 at *
  have hx3 : x3.length ≤ 9000000 := by omega
  clear h1 h3 hl eg b0 V0
  cases t0 with
  | false =>
    have HF := Lib.hid (show R = false by rw [HO.out]; rfl)
    go_enter Tryz.func29, Tryz.ntmps29
    go_wp2_with fail
    refine (Calls.mono (EN.out _)) ?_
    rintro e w1 ⟨rfl, b1⟩
    have B1 := Lib.hid (below_step B0.out b1)
    clear b1
    go_wp2
    go_ret
    exact ⟨ArgI.ret_b HF.out.symm, B1.out⟩
  | true =>
    go_enter Tryz.func29, Tryz.ntmps29
    go_wp2_with fail
    refine (Calls.mono (EN.out _)) ?_
    rintro e w1 ⟨rfl, b1⟩
    have D1 := Lib.hid b1
    have B1 := Lib.hid (below_step B0.out b1)
    have V1 := Lib.hid (HV.out.below b1)
    have v1 : w1.cell? ⟨w.heap.size, 1, none⟩ = some (.slice A1 x1.length c1) := V1.out.cell 1 _ rfl
    clear b1
    cases t1 with
    | false =>
      have HF := Lib.hid (show R = false by rw [HO.out]; rfl)
      go_wp2_with fail
      refine (Calls.mono (EP.out _ B1.out)) ?_
      rintro e w2 ⟨rfl, b2⟩
      have B2 := Lib.hid (below_step B1.out b2)
      clear b2
      go_wp2
      go_ret
      exact ⟨ArgI.ret_b HF.out.symm, B2.out⟩
    | true =>
      go_wp2_with fail
      refine (Calls.mono (EP.out _ B1.out)) ?_
      rintro e w2 ⟨rfl, b2⟩
      have D2 := Lib.hid (below_step D1.out b2)
      have B2 := Lib.hid (below_step B1.out b2)
      have v23 : w2.cell? ⟨w.heap.size, 3, none⟩ = some (.slice A3 x3.length c3) := (V1.out.below b2).cell 3 _ rfl
      clear b2 v1
      by_cases n2 : x3.length ≤ 2
      · have hq : decide ((x3.length : Int) > 2) = false := decide_eq_false (by omega)
        have HF := Lib.hid (show R = t2 by rw [HO.out, decide_eq_true n2]; rfl)
        have EV2 := Lib.hid (EV.out w2 D2.out)
        go_wp2_with fail
        refine (Calls.mono EV2.out) ?_
        rintro e w3 ⟨rfl, b3⟩
        have B3 := Lib.hid (below_step B2.out b3)
        clear b3
        go_wp2
        go_ret
        exact ⟨ArgI.ret_b HF.out.symm, B3.out⟩
      · have hq : decide ((x3.length : Int) > 2) = true := decide_eq_true (by omega)
        have HF := Lib.hid (show R = false by rw [HO.out, decide_eq_false n2]; rfl)
        go_wp2
        go_ret
        exact ⟨ArgI.ret_b HF.out.symm, B2.out⟩
set_option maxHeartbeats 4000000 in
set_option maxRecDepth 100000 in
theorem ruleIn (b : Nat) (A B : Option Addr) (m c d : Nat) (fs : List FunctionT) (z0 : ByteArray) (A1 : Option Addr) (c1 : Nat) (x1 : List PatternT) (A2 : Option Addr) (c2 : Nat) (x2 : List SumT) (A3 : Option Addr) (c3 : Nat) (x3 : List CallT) (z4 : Bool) (A5 : Option Addr) (c5 : Nat) (x5 : List SumT) (z6 : ByteArray) (w : World) (hV : Lvar w b #[.slice A fs.length c, .slice B m d]) (hA : ArgS Mem.fn w A fs.length c fs) (hl : fs.length + szs szFunctionU fs ≤ 9000000)
    (h1 : ArgS Mem.pat w A1 x1.length c1 x1) (h2 : ArgS Mem.sum w A2 x2.length c2 x2) (h3 : ArgS Mem.call w A3 x3.length c3 x3) (h5 : ArgS Mem.sum w A5 x5.length c5 x5) (hr : szRuleU (z0, x1, x2, x3, (z4, x5, z6)) ≤ 9000000) :
    Calls Tryz.prog 31 #[.agg #[.string z0, .slice A1 x1.length c1, .slice A2 x2.length c2, .slice A3 x3.length c3, .bool z4, .slice A5 x5.length c5, .string z6], .pointer (some ⟨b, 0, none⟩)] w fun e w' => e = .returned (.bool (ruleV fs (z0, x1, x2, x3, (z4, x5, z6)))) ∧ Below w.heap.size w w' := by
  have b0 : Below w.heap.size w (w.alloc (Obj.cells #[Value.string z0, Value.slice A1 x1.length c1, Value.slice A2 x2.length c2, Value.slice A3 x3.length c3, Value.bool z4, Value.slice A5 x5.length c5, Value.string z6] 38)) := (Below.refl _ _).alloc (Nat.le_refl _) _
  have q0 : w.cell? ⟨b, 0, none⟩ = some (.slice A fs.length c) := hV.cell 0 _ rfl
  have q1 : w.cell? ⟨b, 1, none⟩ = some (.slice B m d) := hV.cell 1 _ rfl
  have hbl := hV.lt
  have VR := Lib.hid (validRule A B m c d fs z0 A1 c1 x1 A2 c2 x2 A3 c3 x3 z4 A5 c5 x5 z6 _ (hA.below b0) (by omega) (h1.below b0) (h2.below b0) (h3.below b0) (h5.below b0) (by omega))
  have B0 := Lib.hid b0
  clear hA hV b0 h1 h2 h3 h5
  go_enter Tryz.func31, Tryz.ntmps31
  go_wp2_with fail
  refine (Calls.mono VR.out) ?_
  rintro e w1 ⟨rfl, b1⟩
  have B1 := Lib.hid (below_step B0.out b1)
  clear b1
  go_wp2
  go_ret
  exact ⟨rfl, B1.out⟩
set_option maxHeartbeats 4000000 in
set_option maxRecDepth 100000 in
theorem validProg (A B : Option Addr) (c d : Nat) (fs : List FunctionT) (rs : List RuleT) (w : World) (hA : ArgS Mem.fn w A fs.length c fs) (hB : ArgS Mem.rule w B rs.length d rs) (hl : szProgramU (fs, rs) ≤ 9000000) :
    Calls Tryz.prog 8 #[.agg #[.slice A fs.length c, .slice B rs.length d]] w fun e w' => e = .returned (.bool (progV fs rs)) ∧ Below w.heap.size w w' := by
  have eg : ∀ args W, (callFunc 31 args).run Tryz.prog W = .ok (.enter 31 args) W := enters_of Tryz.func31 (by kernel_rfl) rfl
  have eg2 : ∀ args W, (callFunc 29 args).run Tryz.prog W = .ok (.enter 29 args) W := enters_of Tryz.func29 (by kernel_rfl) rfl
  obtain ⟨i0, hi, hz0, hz1, hz2⟩ := info_parts strInfoU
  simp only [szProgramU] at hl
  obtain ⟨w1, hw1⟩ : ∃ u, u = w.alloc (Obj.cells #[Value.slice A fs.length c, Value.slice B rs.length d] 27) := ⟨_, rfl⟩
  have B0 := Lib.hid (show Below w.heap.size w w1 by rw [hw1]; exact (Below.refl _ _).alloc (Nat.le_refl _) _)
  have V0 := Lib.hid (show Lvar w1 w.heap.size #[Value.slice A fs.length c, Value.slice B rs.length d] by rw [hw1]; exact Lvar.new w _ _)
  have EF := Lib.hid (fun W (h : Below w1.heap.size w1 W) => everyFn 29 #[] eg2 fnV A c fs W (hA.below (below_step B0.out h)) (by omega) (fun z0 A1 c1 x1 z2 A3 c3 x3 W2 h2 k1 k3 hs => by
    have := validFn z0 A1 c1 x1 z2 A3 c3 x3 W2 k1 k3 hs
    simpa using this))
  have ER := Lib.hid (fun W (h : Below w1.heap.size w1 W) => everyRule 31 #[.pointer (some ⟨w.heap.size, 0, none⟩)] eg (ruleV fs) B d rs W (hB.below (below_step B0.out h)) (by omega) (fun z0 A1 c1 x1 A2 c2 x2 A3 c3 x3 z4 A5 c5 x5 z6 W2 h2 k1 k2 k3 k5 hs => ruleIn w.heap.size A B rs.length c d fs z0 A1 c1 x1 A2 c2 x2 A3 c3 x3 z4 A5 c5 x5 z6 W2 ((V0.out.below h).below h2) (hA.below (below_step B0.out (below_step h h2))) (by omega) k1 k2 k3 k5 hs))
  have HA := Lib.hid hA
  have hfl : fs.length ≤ 9000000 ∧ rs.length ≤ 9000000 := by omega
  have HO := Lib.hid (show progV fs rs = ((decide (fs.length ≠ 0) && (decide (fs.length ≤ 3) && decide (rs.length ≤ 8))) && (NameS.dist (fs.map (·.1)) && (fs.all fnV && rs.all (ruleV fs)))) from rfl)
  generalize progV fs rs = R at *
  generalize fs.all fnV = tf at *
  generalize rs.all (ruleV fs) = tr at *
  clear hA hB hl eg eg2
  have NEG := Lib.hid (fun (h : (decide (fs.length ≠ 0) && (decide (fs.length ≤ 3) && decide (rs.length ≤ 8))) = false) => (show R = false by rw [HO.out, h]; rfl))
  by_cases n0 : fs.length = 0
  · have HF := Lib.hid (NEG.out (by simp [n0]))
    have hq : ((fs.length : Int) == 0) = true := by simp [n0]
    have B1 := Lib.hid (show Below w.heap.size w (w.alloc (Obj.cells #[Value.slice A fs.length c, Value.slice B rs.length d] 27)) from (Below.refl _ _).alloc (Nat.le_refl _) _)
    clear n0
    go_enter Tryz.func8, Tryz.ntmps8
    go_wp2
    go_ret
    exact ⟨ArgI.ret_b HF.out.symm, B1.out⟩
  · have hq0 : ((fs.length : Int) == 0) = false := beq_eq_false_iff_ne.2 (by omega)
    by_cases n3 : fs.length ≤ 3
    · have hq3 : decide ((fs.length : Int) > 3) = false := decide_eq_false (by omega)
      by_cases n8 : rs.length ≤ 8
      · have hq8 : decide ((rs.length : Int) > 8) = false := decide_eq_false (by omega)
        have HO := Lib.hid (show R = (NameS.dist (fs.map (·.1)) && (tf && tr)) by rw [HO.out, decide_eq_true n0, decide_eq_true n3, decide_eq_true n8]; rfl)
        clear NEG
        go_enter Tryz.func8, Tryz.ntmps8
        go_wp2
        go_loopw [3, 25] (fun v i wr => ∃ (k : Nat) (done : List ByteArray), k ≤ fs.length ∧ i = .int .i64 k ∧ Hid (done = (fs.take k).map (·.1)) ∧ Names10 w1 v done wr) (fun _ i _ => fs.length - (intOf i).toNat)
        case atStart => exact ⟨0, [], Nat.zero_le _, rfl, Lib.hid rfl, World.ownsRow_nil _ _ _ _, by rw [hw1]; exact Below.refl _ _⟩
        case round =>
          clear hw1
          obtain ⟨k, done, hk, rfl, hdone, hN⟩ := hrel
          have HD := Lib.hid hdone.out
          have HN := Lib.hid hN
          have hdl : done.length ≤ 10000000 := by rw [HD.out, List.length_map, List.length_take]; omega
          clear hN hdone
          have bw := below_step B0.out HN.out.2
          have BW := Lib.hid bw
          by_cases hlt : k < fs.length
          · obtain ⟨b1, o1, G1, e1, G3, e3, rfl, hbb1, g0, g1, g2, g3, r1, r3⟩ := (HA.out.below bw).fn_at hlt
            have HST := Lib.hid (show (fs.take (k + 1)).map (·.1) = (fs.take k).map (·.1) ++ [fs[k].1] by rw [take_snoc hlt, List.map_append]; rfl)
            clear bw r1 r3
            generalize fs[k] = x at *
            obtain ⟨y0, y1, y2, y3⟩ := x
            simp only at g0 g1 g2 g3
            have hi0 : (0 : Int) ≤ (k : Int) := by omega
            have hi1 : (k : Int) < (fs.length : Int) := by omega
            have HDD := Lib.hid (show Below wr.heap.size wr (wr.alloc (Obj.cells #[Value.string y0, Value.slice G1 y1.length e1, Value.bool y2, Value.slice G3 y3.length e3] 41)) from (Below.refl _ _).alloc (Nat.le_refl _) _)
            have HF := Lib.hid (show done ++ [y0] = (fs.take (k + 1)).map (·.1) by rw [HST.out, HD.out])
            have hown := HN.out.1
            have RN := Lib.hid (show Row 0 ((wr.alloc (Obj.cells #[Value.string y0, Value.slice G1 y1.length e1, Value.bool y2, Value.slice G3 y3.length e3] 41)).alloc (Obj.cells #[Value.string y0] 9)).heap.size ((wr.alloc (Obj.cells #[Value.string y0, Value.slice G1 y1.length e1, Value.bool y2, Value.slice G3 y3.length e3] 41)).alloc (Obj.cells #[Value.string y0] 9)) (some ⟨wr.heap.size + 1, 0, none⟩) [.string y0] from by have h9 := row_new (heap_alloc_new (wr.alloc (Obj.cells #[Value.string y0, Value.slice G1 y1.length e1, Value.bool y2, Value.slice G3 y3.length e3] 41)) (Obj.cells #[Value.string y0] 9)); simpa using h9)
            go_wp2_with (at_builtin; (refine wpList_append_rowW rfl _ _ _ rfl 9 i0 (.string ByteArray.empty) 1 16 w1.heap.size Tryz.underlying30 hi hz0 hz1 hz2 rfl (by decide) _ done.length (done.map Value.string) rfl ((hown.alloc _).alloc _) _ 1 _ [.string y0] rfl rfl RN.out (by simp [Value.oneCell']) (by unfold maxLen; omega) (by omega) (by have := HN.out.2.size; simp; omega) ?_); intro v5 w5 hown5 hgrow hwh)
            have BB : Below w1.heap.size w1 w5 := ((HN.out.2.trans (HDD.out.mono HN.out.2.size)).alloc (by have := HN.out.2.size; simp; omega) (Obj.cells #[Value.string y0] 9)).grown hgrow (by have := HN.out.2.size; simp; omega) (fun g e => (hown.lt g e).1)
            have NN := Lib.hid (show Names10 w1 v5 (done ++ [y0]) w5 from ⟨by simpa using hown5, BB⟩)
            clear hown5 hgrow hwh hown BB
            go_wp2
            go_roundw
            case rel => exact ⟨k + 1, done ++ [y0], by omega, by go_num, HF, NN.out⟩
            case measure => simp [intOf]; omega
          · obtain rfl : k = fs.length := by omega
            have hdd : done = fs.map (·.1) := by rw [HD.out, List.take_length]
            have HO := Lib.hid (show R = (NameS.dist done && (tf && tr)) by rw [HO.out, hdd])
            obtain ⟨N, cn, hv, oN, _⟩ := gave_own HN.out.1 HN.out.2
            injection hv with hv
            subst hv
            have DI := Lib.hid (NameS.implDistinct N cn done wr (own_SR oN).1 (by omega))
            have V1 := Lib.hid (V0.out.below HN.out.2)
            have HNB := Lib.hid HN.out.2
            clear hdd oN
            generalize NameS.dist done = t1 at *
            cases t1 with
            | false =>
              have HF := Lib.hid (show R = false by rw [HO.out]; rfl)
              go_wp2_with fail
              refine (Calls.mono DI.out) ?_
              rintro e w3 ⟨rfl, b3⟩
              have B3 := Lib.hid (below_step BW.out b3)
              clear b3
              go_wp2
              go_ret
              exact ⟨ArgI.ret_b HF.out.symm, B3.out⟩
            | true =>
              have HO := Lib.hid (show R = (tf && tr) by rw [HO.out]; rfl)
              go_wp2_with fail
              refine (Calls.mono DI.out) ?_
              rintro e w3 ⟨rfl, b3⟩
              have D3 := Lib.hid (below_step HNB.out b3)
              have EF3 := Lib.hid (EF.out w3 D3.out)
              have B3 := Lib.hid (below_step BW.out b3)
              have V3 := Lib.hid (V1.out.below b3)
              have p0 : w3.cell? ⟨w.heap.size, 0, none⟩ = some (.slice A fs.length c) := V3.out.cell 0 _ rfl
              clear b3
              cases tf with
              | false =>
                have HF := Lib.hid (show R = false by rw [HO.out]; rfl)
                go_wp2_with fail
                refine (Calls.mono EF3.out) ?_
                rintro e w4 ⟨rfl, b4⟩
                have B4 := Lib.hid (below_step B3.out b4)
                clear b4
                go_wp2
                go_ret
                exact ⟨ArgI.ret_b HF.out.symm, B4.out⟩
              | true =>
                have HF := Lib.hid (show R = tr by rw [HO.out]; rfl)
                go_wp2_with fail
                refine (Calls.mono EF3.out) ?_
                rintro e w4 ⟨rfl, b4⟩
                have ER4 := Lib.hid (ER.out w4 (below_step D3.out b4))
                have B4 := Lib.hid (below_step B3.out b4)
                have p1 : w4.cell? ⟨w.heap.size, 1, none⟩ = some (.slice B rs.length d) := (V3.out.below b4).cell 1 _ rfl
                clear b4 p0
                go_wp2_with fail
                refine (Calls.mono ER4.out) ?_
                rintro e w5 ⟨rfl, b5⟩
                have B5 := Lib.hid (below_step B4.out b5)
                clear b5
                go_wp2
                go_ret
                exact ⟨ArgI.ret_b HF.out.symm, B5.out⟩
      · have HF := Lib.hid (NEG.out (by simp [n8]))
        have hq : decide ((rs.length : Int) > 8) = true := decide_eq_true (by omega)
        have B1 := Lib.hid (show Below w.heap.size w (w.alloc (Obj.cells #[Value.slice A fs.length c, Value.slice B rs.length d] 27)) from (Below.refl _ _).alloc (Nat.le_refl _) _)
        go_enter Tryz.func8, Tryz.ntmps8
        go_wp2
        go_ret
        exact ⟨ArgI.ret_b HF.out.symm, B1.out⟩
    · have HF := Lib.hid (NEG.out (by simp [n3]))
      have hq : decide ((fs.length : Int) > 3) = true := decide_eq_true (by omega)
      have B1 := Lib.hid (show Below w.heap.size w (w.alloc (Obj.cells #[Value.slice A fs.length c, Value.slice B rs.length d] 27)) from (Below.refl _ _).alloc (Nat.le_refl _) _)
      go_enter Tryz.func8, Tryz.ntmps8
      go_wp2
      go_ret
      exact ⟨ArgI.ret_b HF.out.symm, B1.out⟩
end ProgI
end Go.Proofs.YtbdpohcababccaaGreat
