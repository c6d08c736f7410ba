import Derived.Test.YtcdlgebbmcdadaaGreatDoorRepUni
import Derived.Test.YtcdlgebbmcdadaaGreatDoorUCall
import Derived.Deep.RegionLaw
import Derived.Deep.RegionHeld3
/-
  The laws' helpers on Rule: copies, sizes, comparison, marks (made by tools/ukit.py).
-/
namespace Go.Proofs.YtcdlgebbmcdadaaGreatDoor
open Go.RowKit
namespace Mem
open RowK

abbrev RuleT := ByteArray × List PatternT × List SumT × List CallT × ArgT
def rule : Rep RuleT := Rep.prod Rep.str (Rep.prod (Rep.slice pat) (Rep.prod (Rep.slice sum) (Rep.prod (Rep.slice call) arg)))
theorem rule_open {q : Bool} {w : World} {fp : List Nat} {cs : List Value} {p : RuleT} (h : rule.rep q w fp cs p) : ∃ (A1 : Option Addr) (c1 : Nat) (f1 : List Nat) (A2 : Option Addr) (c2 : Nat) (f2 : List Nat) (A3 : Option Addr) (c3 : Nat) (f3 : List Nat) (A5 : Option Addr) (c5 : Nat) (f5 : List Nat), fp = f1 ++ f2 ++ f3 ++ f5 ∧ cs = [.string p.1, .slice A1 p.2.1.length c1, .slice A2 p.2.2.1.length c2, .slice A3 p.2.2.2.1.length c3, .bool p.2.2.2.2.1, .slice A5 p.2.2.2.2.2.1.length c5, .string p.2.2.2.2.2.2] ∧ (Rep.slice pat).rep q w f1 [.slice A1 p.2.1.length c1] p.2.1 ∧ (Rep.slice sum).rep q w f2 [.slice A2 p.2.2.1.length c2] p.2.2.1 ∧ (Rep.slice call).rep q w f3 [.slice A3 p.2.2.2.1.length c3] p.2.2.2.1 ∧ (Rep.slice sum).rep q w f5 [.slice A5 p.2.2.2.2.2.1.length c5] p.2.2.2.2.2.1 := by
  obtain ⟨g0, g0', d0, d0', rfl, rfl, k0, h'⟩ := h
  obtain ⟨rfl, rfl⟩ := k0
  obtain ⟨g1, g1', d1, d1', rfl, rfl, k1, h''⟩ := h'
  have r1 := k1
  obtain ⟨A1, c1, rfl, _⟩ := k1
  obtain ⟨g2, g2', d2, d2', rfl, rfl, k2, h'''⟩ := h''
  have r2 := k2
  obtain ⟨A2, c2, rfl, _⟩ := k2
  obtain ⟨g3, g3', d3, d3', rfl, rfl, k3, h''''⟩ := h'''
  have r3 := k3
  obtain ⟨A3, c3, rfl, _⟩ := k3
  obtain ⟨g4, g4', d4, d4', rfl, rfl, k4, h'''''⟩ := h''''
  obtain ⟨rfl, rfl⟩ := k4
  obtain ⟨g5, g5', d5, d5', rfl, rfl, k5, h''''''⟩ := h'''''
  have r5 := k5
  obtain ⟨A5, c5, rfl, _⟩ := k5
  obtain ⟨rfl, rfl⟩ := h''''''
  exact ⟨A1, c1, _, A2, c2, _, A3, c3, _, A5, c5, _, by simp, rfl, r1, r2, r3, r5⟩
theorem rule_parts {q : Bool} {w : World} {fp : List Nat} {A1 : Option Addr} {c1 : Nat} {x1 : List PatternT} {A2 : Option Addr} {c2 : Nat} {x2 : List SumT} {A3 : Option Addr} {c3 : Nat} {x3 : List CallT} {A5 : Option Addr} {c5 : Nat} {x5 : List SumT} {z0 : ByteArray} {z4 : Bool} {z6 : ByteArray} (h : rule.rep q w fp [.string z0, .slice A1 x1.length c1, .slice A2 x2.length c2, .slice A3 x3.length c3, .bool z4, .slice A5 x5.length c5, .string z6] (z0, x1, x2, x3, (z4, x5, z6))) : ∃ f1 f2 f3 f5, fp = f1 ++ f2 ++ f3 ++ f5 ∧ (Rep.slice pat).rep q w f1 [.slice A1 x1.length c1] x1 ∧ (Rep.slice sum).rep q w f2 [.slice A2 x2.length c2] x2 ∧ (Rep.slice call).rep q w f3 [.slice A3 x3.length c3] x3 ∧ (Rep.slice sum).rep q w f5 [.slice A5 x5.length c5] x5 := by
  obtain ⟨B1, e1, f1, B2, e2, f2, B3, e3, f3, B5, e5, f5, hf, hc, r1, r2, r3, r5⟩ := rule_open h
  injection hc with hc0 hc
  injection hc with hc1 hc
  injection hc with hc2 hc
  injection hc with hc3 hc
  injection hc with hc4 hc
  injection hc with hc5 hc
  injection hc with hc6 hc
  injection hc1 with ha1 _ hb1
  subst ha1; subst hb1
  injection hc2 with ha2 _ hb2
  subst ha2; subst hb2
  injection hc3 with ha3 _ hb3
  subst ha3; subst hb3
  injection hc5 with ha5 _ hb5
  subst ha5; subst hb5
  exact ⟨f1, f2, f3, f5, hf, r1, r2, r3, r5⟩
def szRuleU (x : RuleT) : Nat := x.1.size + (x.2.1.length + szs szPatternU x.2.1) + (x.2.2.1.length + szs szSum x.2.2.1) + (x.2.2.2.1.length + szs szCallU x.2.2.2.1) + szArgU x.2.2.2.2
def WfRuleU (x : RuleT) : Prop := x.1.size ≤ 9223372036854775807 ∧ x.2.1.length ≤ 9223372036854775807 ∧ (∀ e ∈ x.2.1, WfPatternU e) ∧ x.2.2.1.length ≤ 9223372036854775807 ∧ (∀ e ∈ x.2.2.1, WfSum e) ∧ x.2.2.2.1.length ≤ 9223372036854775807 ∧ (∀ e ∈ x.2.2.2.1, WfCallU e) ∧ WfArgU x.2.2.2.2
theorem infoRule : (Tryz.prog.info? 37).map (fun i => (i.zero, i.size, i.bytes)) = some (some (.agg #[.string ByteArray.empty, .slice none 0 0, .slice none 0 0, .slice none 0 0, .bool false, .slice none 0 0, .string ByteArray.empty]), 7, 136) := by kernel_rfl
set_option maxHeartbeats 4000000 in
set_option maxRecDepth 100000 in
theorem copyRuleU (q1 : Bool) (f1 : List Nat) (q2 : Bool) (f2 : List Nat) (q3 : Bool) (f3 : List Nat) (q5 : Bool) (f5 : List Nat) (z0 : ByteArray) (A1 : Option Addr) (c1 : Nat) (x1 : List PatternT) (A2 : Option Addr) (c2 : Nat) (x2 : List SumT) (A3 : Option Addr) (c3 : Nat) (x3 : List CallT) (z4 : Bool) (A5 : Option Addr) (c5 : Nat) (x5 : List SumT) (z6 : ByteArray) (w : World) (h1 : (Rep.slice pat).rep q1 w f1 [.slice A1 x1.length c1] x1) (h2 : (Rep.slice sum).rep q2 w f2 [.slice A2 x2.length c2] x2) (h3 : (Rep.slice call).rep q3 w f3 [.slice A3 x3.length c3] x3) (h5 : (Rep.slice sum).rep q5 w f5 [.slice A5 x5.length c5] x5) (hl : szRuleU (z0, x1, x2, x3, (z4, x5, z6)) ≤ 100000000) :
    Calls Tryz.prog 6 #[.agg #[.string z0, .slice A1 x1.length c1, .slice A2 x2.length c2, .slice A3 x3.length c3, .bool z4, .slice A5 x5.length c5, .string z6]] w fun e w' => ∃ B1 B2 B3 B5, e = .returned (.agg #[.string z0, .slice B1 x1.length x1.length, .slice B2 x2.length x2.length, .slice B3 x3.length x3.length, .bool z4, .slice B5 x5.length x5.length, .string z6]) ∧ OwnR rule w.heap.size w'.heap.size w' [.string z0, .slice B1 x1.length x1.length, .slice B2 x2.length x2.length, .slice B3 x3.length x3.length, .bool z4, .slice B5 x5.length x5.length, .string z6] (z0, x1, x2, x3, (z4, x5, z6)) ∧ Below w.heap.size w w' := by
  simp only [szRuleU] at hl
  have CP0 := Lib.hid (fun W (h : Below w.heap.size w W) => copyPatternSU q1 f1 A1 c1 x1 W (Rep.below h1 h) (by omega))
  have CP1 := Lib.hid (fun W (h : Below w.heap.size w W) => copySumSU q2 f2 A2 c2 x2 W (Rep.below h2 h) (by omega))
  have CP2 := Lib.hid (fun W (h : Below w.heap.size w W) => copyCallSU q3 f3 A3 c3 x3 W (Rep.below h3 h) (by omega))
  have CP3 := Lib.hid (fun W (h : Below w.heap.size w W) => copyArgU q5 f5 z4 A5 c5 x5 z6 W (Rep.below h5 h) (by simp only [szArgU] at hl ⊢; omega))
  clear hl h1 h2 h3 h5
  go_enter Tryz.func6, Tryz.ntmps6
  go_wp2_with fail
  refine (Calls.mono (CP0.out _ (by repeat (first | with_reducible exact Below.refl _ _ | with_reducible exact Below.refl _ _ | refine Below.setCell ?_ (by first | omega | (simp; done) | (simp; omega)) _ | refine Below.alloc ?_ (by first | omega | (simp; done) | (simp; omega)) _)))) ?_
  rintro e w0 ⟨D1, rfl, o0, b0⟩
  have B0 : Below w.heap.size w w0 := below_step (by repeat (first | with_reducible exact Below.refl _ _ | with_reducible exact Below.refl _ _ | refine Below.setCell ?_ (by first | omega | (simp; done) | (simp; omega)) _ | refine Below.alloc ?_ (by first | omega | (simp; done) | (simp; omega)) _)) b0
  have hz0 := b0.size
  simp only [World.size_alloc] at hz0 o0
  have VA0 := (((Lvar.new w #[Value.string z0, Value.slice A1 x1.length c1, Value.slice A2 x2.length c2, Value.slice A3 x3.length c3, Value.bool z4, Value.slice A5 x5.length c5, Value.string z6] 28).alloc (Obj.cells #[Value.string ByteArray.empty, Value.slice none 0 0, Value.slice none 0 0, Value.slice none 0 0, Value.bool false, Value.slice none 0 0, Value.string ByteArray.empty] 37)).alloc (Obj.cells #[Value.string z0, Value.slice none 0 0, Value.slice none 0 0, Value.slice none 0 0, Value.bool false, Value.slice none 0 0, Value.string ByteArray.empty] 37)).below b0
  have VB0 := ((Lvar.new (w.alloc (Obj.cells #[Value.string z0, Value.slice A1 x1.length c1, Value.slice A2 x2.length c2, Value.slice A3 x3.length c3, Value.bool z4, Value.slice A5 x5.length c5, Value.string z6] 28)) #[Value.string ByteArray.empty, Value.slice none 0 0, Value.slice none 0 0, Value.slice none 0 0, Value.bool false, Value.slice none 0 0, Value.string ByteArray.empty] 37).alloc (Obj.cells #[Value.string z0, Value.slice none 0 0, Value.slice none 0 0, Value.slice none 0 0, Value.bool false, Value.slice none 0 0, Value.string ByteArray.empty] 37)).below b0
  have VC0 := (Lvar.new ((w.alloc (Obj.cells #[Value.string z0, Value.slice A1 x1.length c1, Value.slice A2 x2.length c2, Value.slice A3 x3.length c3, Value.bool z4, Value.slice A5 x5.length c5, Value.string z6] 28)).alloc (Obj.cells #[Value.string ByteArray.empty, Value.slice none 0 0, Value.slice none 0 0, Value.slice none 0 0, Value.bool false, Value.slice none 0 0, Value.string ByteArray.empty] 37)) #[Value.string z0, Value.slice none 0 0, Value.slice none 0 0, Value.slice none 0 0, Value.bool false, Value.slice none 0 0, Value.string ByteArray.empty] 37).below b0
  simp only [World.size_alloc] at VB0 VC0
  have cA0_0 := VA0.cell 0 _ rfl
  have cA0_1 := VA0.cell 1 _ rfl
  have cA0_2 := VA0.cell 2 _ rfl
  have cA0_3 := VA0.cell 3 _ rfl
  have cA0_4 := VA0.cell 4 _ rfl
  have cA0_5 := VA0.cell 5 _ rfl
  have cA0_6 := VA0.cell 6 _ rfl
  have cB0_0 := VB0.cell 0 _ rfl
  have cB0_1 := VB0.cell 1 _ rfl
  have cB0_2 := VB0.cell 2 _ rfl
  have cB0_3 := VB0.cell 3 _ rfl
  have cB0_4 := VB0.cell 4 _ rfl
  have cB0_5 := VB0.cell 5 _ rfl
  have cB0_6 := VB0.cell 6 _ rfl
  have yB0_0 := VB0.frozen 0
  have yB0_1 := VB0.frozen 1
  have yB0_2 := VB0.frozen 2
  have yB0_3 := VB0.frozen 3
  have yB0_4 := VB0.frozen 4
  have yB0_5 := VB0.frozen 5
  have yB0_6 := VB0.frozen 6
  have cC0_0 := VC0.cell 0 _ rfl
  have cC0_1 := VC0.cell 1 _ rfl
  have cC0_2 := VC0.cell 2 _ rfl
  have cC0_3 := VC0.cell 3 _ rfl
  have cC0_4 := VC0.cell 4 _ rfl
  have cC0_5 := VC0.cell 5 _ rfl
  have cC0_6 := VC0.cell 6 _ rfl
  have yC0_0 := VC0.frozen 0
  have yC0_1 := VC0.frozen 1
  have yC0_2 := VC0.frozen 2
  have yC0_3 := VC0.frozen 3
  have yC0_4 := VC0.frozen 4
  have yC0_5 := VC0.frozen 5
  have yC0_6 := VC0.frozen 6
  have VA0 := Lib.hid VA0
  have VB0 := Lib.hid VB0
  have VC0 := Lib.hid VC0
  clear b0
  go_wp2_with fail
  refine (Calls.mono (CP1.out _ (by repeat (first | with_reducible exact B0 | with_reducible exact Below.refl _ _ | refine Below.setCell ?_ (by first | omega | (simp; done) | (simp; omega)) _ | refine Below.alloc ?_ (by first | omega | (simp; done) | (simp; omega)) _)))) ?_
  rintro e w1 ⟨D2, rfl, o1, b1⟩
  have B1 : Below w.heap.size w w1 := below_step (by repeat (first | with_reducible exact B0 | with_reducible exact Below.refl _ _ | refine Below.setCell ?_ (by first | omega | (simp; done) | (simp; omega)) _ | refine Below.alloc ?_ (by first | omega | (simp; done) | (simp; omega)) _)) b1
  have hz1 := b1.size
  simp only [World.size_setCell] at hz1 o1
  have VA1 := (VA0.out.other (p := ⟨w.heap.size + 1 + 1, 1, none⟩) (by first | omega | (simp; done) | (simp; omega)) (Value.slice D1 x1.length x1.length)).below b1
  have VB1 := (VB0.out.other (p := ⟨w.heap.size + 1 + 1, 1, none⟩) (by first | omega | (simp; done) | (simp; omega)) (Value.slice D1 x1.length x1.length)).below b1
  have VC1 : Lvar w1 (w.heap.size + 1 + 1) #[Value.string z0, Value.slice D1 x1.length x1.length, Value.slice none 0 0, Value.slice none 0 0, Value.bool false, Value.slice none 0 0, Value.string ByteArray.empty] := (VC0.out.set 1 (Value.slice D1 x1.length x1.length)).below b1
  have o0 := OwnR.below (OwnR.keep o0 (show Mod w.heap.size (w.heap.size + 3) w0 _ from (by repeat (first | with_reducible exact Mod.refl _ _ _ | refine Mod.trans ?_ (Mod.set _ (by first | omega | (simp; done) | (simp; omega)) (by first | omega | (simp; done) | (simp; omega)) _)))) (Or.inr (by omega))) b1
  clear cA0_0 cA0_1 cA0_2 cA0_3 cA0_4 cA0_5 cA0_6 cB0_0 cB0_1 cB0_2 cB0_3 cB0_4 cB0_5 cB0_6 yB0_0 yB0_1 yB0_2 yB0_3 yB0_4 yB0_5 yB0_6 cC0_0 cC0_1 cC0_2 cC0_3 cC0_4 cC0_5 cC0_6 yC0_0 yC0_1 yC0_2 yC0_3 yC0_4 yC0_5 yC0_6
  have cA1_0 := VA1.cell 0 _ rfl
  have cA1_1 := VA1.cell 1 _ rfl
  have cA1_2 := VA1.cell 2 _ rfl
  have cA1_3 := VA1.cell 3 _ rfl
  have cA1_4 := VA1.cell 4 _ rfl
  have cA1_5 := VA1.cell 5 _ rfl
  have cA1_6 := VA1.cell 6 _ rfl
  have cB1_0 := VB1.cell 0 _ rfl
  have cB1_1 := VB1.cell 1 _ rfl
  have cB1_2 := VB1.cell 2 _ rfl
  have cB1_3 := VB1.cell 3 _ rfl
  have cB1_4 := VB1.cell 4 _ rfl
  have cB1_5 := VB1.cell 5 _ rfl
  have cB1_6 := VB1.cell 6 _ rfl
  have yB1_0 := VB1.frozen 0
  have yB1_1 := VB1.frozen 1
  have yB1_2 := VB1.frozen 2
  have yB1_3 := VB1.frozen 3
  have yB1_4 := VB1.frozen 4
  have yB1_5 := VB1.frozen 5
  have yB1_6 := VB1.frozen 6
  have cC1_0 := VC1.cell 0 _ rfl
  have cC1_1 := VC1.cell 1 _ rfl
  have cC1_2 := VC1.cell 2 _ rfl
  have cC1_3 := VC1.cell 3 _ rfl
  have cC1_4 := VC1.cell 4 _ rfl
  have cC1_5 := VC1.cell 5 _ rfl
  have cC1_6 := VC1.cell 6 _ rfl
  have yC1_0 := VC1.frozen 0
  have yC1_1 := VC1.frozen 1
  have yC1_2 := VC1.frozen 2
  have yC1_3 := VC1.frozen 3
  have yC1_4 := VC1.frozen 4
  have yC1_5 := VC1.frozen 5
  have yC1_6 := VC1.frozen 6
  have VA1 := Lib.hid VA1
  have VB1 := Lib.hid VB1
  have VC1 := Lib.hid VC1
  clear VA0 VB0 VC0
  clear b1
  go_wp2_with fail
  refine (Calls.mono (CP2.out _ (by repeat (first | with_reducible exact B1 | with_reducible exact Below.refl _ _ | refine Below.setCell ?_ (by first | omega | (simp; done) | (simp; omega)) _ | refine Below.alloc ?_ (by first | omega | (simp; done) | (simp; omega)) _)))) ?_
  rintro e w2 ⟨D3, rfl, o2, b2⟩
  have B2 : Below w.heap.size w w2 := below_step (by repeat (first | with_reducible exact B1 | with_reducible exact Below.refl _ _ | refine Below.setCell ?_ (by first | omega | (simp; done) | (simp; omega)) _ | refine Below.alloc ?_ (by first | omega | (simp; done) | (simp; omega)) _)) b2
  have hz2 := b2.size
  simp only [World.size_setCell] at hz2 o2
  have VA2 := (VA1.out.other (p := ⟨w.heap.size + 1 + 1, 2, none⟩) (by first | omega | (simp; done) | (simp; omega)) (Value.slice D2 x2.length x2.length)).below b2
  have VB2 := (VB1.out.other (p := ⟨w.heap.size + 1 + 1, 2, none⟩) (by first | omega | (simp; done) | (simp; omega)) (Value.slice D2 x2.length x2.length)).below b2
  have VC2 : Lvar w2 (w.heap.size + 1 + 1) #[Value.string z0, Value.slice D1 x1.length x1.length, Value.slice D2 x2.length x2.length, Value.slice none 0 0, Value.bool false, Value.slice none 0 0, Value.string ByteArray.empty] := (VC1.out.set 2 (Value.slice D2 x2.length x2.length)).below b2
  have o0 := OwnR.below (OwnR.keep o0 (show Mod w.heap.size (w.heap.size + 3) w1 _ from (by repeat (first | with_reducible exact Mod.refl _ _ _ | refine Mod.trans ?_ (Mod.set _ (by first | omega | (simp; done) | (simp; omega)) (by first | omega | (simp; done) | (simp; omega)) _)))) (Or.inr (by omega))) b2
  have o1 := OwnR.below (OwnR.keep o1 (show Mod w.heap.size (w.heap.size + 3) w1 _ from (by repeat (first | with_reducible exact Mod.refl _ _ _ | refine Mod.trans ?_ (Mod.set _ (by first | omega | (simp; done) | (simp; omega)) (by first | omega | (simp; done) | (simp; omega)) _)))) (Or.inr (by omega))) b2
  clear cA1_0 cA1_1 cA1_2 cA1_3 cA1_4 cA1_5 cA1_6 cB1_0 cB1_1 cB1_2 cB1_3 cB1_4 cB1_5 cB1_6 yB1_0 yB1_1 yB1_2 yB1_3 yB1_4 yB1_5 yB1_6 cC1_0 cC1_1 cC1_2 cC1_3 cC1_4 cC1_5 cC1_6 yC1_0 yC1_1 yC1_2 yC1_3 yC1_4 yC1_5 yC1_6
  have cA2_0 := VA2.cell 0 _ rfl
  have cA2_1 := VA2.cell 1 _ rfl
  have cA2_2 := VA2.cell 2 _ rfl
  have cA2_3 := VA2.cell 3 _ rfl
  have cA2_4 := VA2.cell 4 _ rfl
  have cA2_5 := VA2.cell 5 _ rfl
  have cA2_6 := VA2.cell 6 _ rfl
  have cB2_0 := VB2.cell 0 _ rfl
  have cB2_1 := VB2.cell 1 _ rfl
  have cB2_2 := VB2.cell 2 _ rfl
  have cB2_3 := VB2.cell 3 _ rfl
  have cB2_4 := VB2.cell 4 _ rfl
  have cB2_5 := VB2.cell 5 _ rfl
  have cB2_6 := VB2.cell 6 _ rfl
  have yB2_0 := VB2.frozen 0
  have yB2_1 := VB2.frozen 1
  have yB2_2 := VB2.frozen 2
  have yB2_3 := VB2.frozen 3
  have yB2_4 := VB2.frozen 4
  have yB2_5 := VB2.frozen 5
  have yB2_6 := VB2.frozen 6
  have cC2_0 := VC2.cell 0 _ rfl
  have cC2_1 := VC2.cell 1 _ rfl
  have cC2_2 := VC2.cell 2 _ rfl
  have cC2_3 := VC2.cell 3 _ rfl
  have cC2_4 := VC2.cell 4 _ rfl
  have cC2_5 := VC2.cell 5 _ rfl
  have cC2_6 := VC2.cell 6 _ rfl
  have yC2_0 := VC2.frozen 0
  have yC2_1 := VC2.frozen 1
  have yC2_2 := VC2.frozen 2
  have yC2_3 := VC2.frozen 3
  have yC2_4 := VC2.frozen 4
  have yC2_5 := VC2.frozen 5
  have yC2_6 := VC2.frozen 6
  have VA2 := Lib.hid VA2
  have VB2 := Lib.hid VB2
  have VC2 := Lib.hid VC2
  clear VA1 VB1 VC1
  clear b2
  go_wp2_with fail
  refine (Calls.mono (CP3.out _ (by repeat (first | with_reducible exact B2 | with_reducible exact Below.refl _ _ | refine Below.setCell ?_ (by first | omega | (simp; done) | (simp; omega)) _ | refine Below.alloc ?_ (by first | omega | (simp; done) | (simp; omega)) _)))) ?_
  rintro e w3 ⟨D5, rfl, o3, b3⟩
  have B3 : Below w.heap.size w w3 := below_step (by repeat (first | with_reducible exact B2 | with_reducible exact Below.refl _ _ | refine Below.setCell ?_ (by first | omega | (simp; done) | (simp; omega)) _ | refine Below.alloc ?_ (by first | omega | (simp; done) | (simp; omega)) _)) b3
  have hz3 := b3.size
  simp only [World.size_setCell] at hz3 o3
  have VA3 := (VA2.out.other (p := ⟨w.heap.size + 1 + 1, 3, none⟩) (by first | omega | (simp; done) | (simp; omega)) (Value.slice D3 x3.length x3.length)).below b3
  have VB3 := (VB2.out.other (p := ⟨w.heap.size + 1 + 1, 3, none⟩) (by first | omega | (simp; done) | (simp; omega)) (Value.slice D3 x3.length x3.length)).below b3
  have VC3 : Lvar w3 (w.heap.size + 1 + 1) #[Value.string z0, Value.slice D1 x1.length x1.length, Value.slice D2 x2.length x2.length, Value.slice D3 x3.length x3.length, Value.bool false, Value.slice none 0 0, Value.string ByteArray.empty] := (VC2.out.set 3 (Value.slice D3 x3.length x3.length)).below b3
  have o0 := OwnR.below (OwnR.keep o0 (show Mod w.heap.size (w.heap.size + 3) w2 _ from (by repeat (first | with_reducible exact Mod.refl _ _ _ | refine Mod.trans ?_ (Mod.set _ (by first | omega | (simp; done) | (simp; omega)) (by first | omega | (simp; done) | (simp; omega)) _)))) (Or.inr (by omega))) b3
  have o1 := OwnR.below (OwnR.keep o1 (show Mod w.heap.size (w.heap.size + 3) w2 _ from (by repeat (first | with_reducible exact Mod.refl _ _ _ | refine Mod.trans ?_ (Mod.set _ (by first | omega | (simp; done) | (simp; omega)) (by first | omega | (simp; done) | (simp; omega)) _)))) (Or.inr (by omega))) b3
  have o2 := OwnR.below (OwnR.keep o2 (show Mod w.heap.size (w.heap.size + 3) w2 _ from (by repeat (first | with_reducible exact Mod.refl _ _ _ | refine Mod.trans ?_ (Mod.set _ (by first | omega | (simp; done) | (simp; omega)) (by first | omega | (simp; done) | (simp; omega)) _)))) (Or.inr (by omega))) b3
  clear cA2_0 cA2_1 cA2_2 cA2_3 cA2_4 cA2_5 cA2_6 cB2_0 cB2_1 cB2_2 cB2_3 cB2_4 cB2_5 cB2_6 yB2_0 yB2_1 yB2_2 yB2_3 yB2_4 yB2_5 yB2_6 cC2_0 cC2_1 cC2_2 cC2_3 cC2_4 cC2_5 cC2_6 yC2_0 yC2_1 yC2_2 yC2_3 yC2_4 yC2_5 yC2_6
  have cA3_0 := VA3.cell 0 _ rfl
  have cA3_1 := VA3.cell 1 _ rfl
  have cA3_2 := VA3.cell 2 _ rfl
  have cA3_3 := VA3.cell 3 _ rfl
  have cA3_4 := VA3.cell 4 _ rfl
  have cA3_5 := VA3.cell 5 _ rfl
  have cA3_6 := VA3.cell 6 _ rfl
  have cB3_0 := VB3.cell 0 _ rfl
  have cB3_1 := VB3.cell 1 _ rfl
  have cB3_2 := VB3.cell 2 _ rfl
  have cB3_3 := VB3.cell 3 _ rfl
  have cB3_4 := VB3.cell 4 _ rfl
  have cB3_5 := VB3.cell 5 _ rfl
  have cB3_6 := VB3.cell 6 _ rfl
  have yB3_0 := VB3.frozen 0
  have yB3_1 := VB3.frozen 1
  have yB3_2 := VB3.frozen 2
  have yB3_3 := VB3.frozen 3
  have yB3_4 := VB3.frozen 4
  have yB3_5 := VB3.frozen 5
  have yB3_6 := VB3.frozen 6
  have cC3_0 := VC3.cell 0 _ rfl
  have cC3_1 := VC3.cell 1 _ rfl
  have cC3_2 := VC3.cell 2 _ rfl
  have cC3_3 := VC3.cell 3 _ rfl
  have cC3_4 := VC3.cell 4 _ rfl
  have cC3_5 := VC3.cell 5 _ rfl
  have cC3_6 := VC3.cell 6 _ rfl
  have yC3_0 := VC3.frozen 0
  have yC3_1 := VC3.frozen 1
  have yC3_2 := VC3.frozen 2
  have yC3_3 := VC3.frozen 3
  have yC3_4 := VC3.frozen 4
  have yC3_5 := VC3.frozen 5
  have yC3_6 := VC3.frozen 6
  have VA3 := Lib.hid VA3
  have VB3 := Lib.hid VB3
  have VC3 := Lib.hid VC3
  clear VA2 VB2 VC2
  clear b3
  go_wp2_with fail
  obtain ⟨T9, hT9⟩ := (show Lvar _ (w.heap.size + 1) #[Value.string z0, Value.slice D1 x1.length x1.length, Value.slice D2 x2.length x2.length, Value.slice D3 x3.length x3.length, Value.bool z4, Value.slice D5 x5.length x5.length, Value.string z6] from ((((((((((VB3.out.other (p := ⟨w.heap.size + 1 + 1, 4, none⟩) (by first | omega | (simp; done) | (simp; omega)) (Value.bool z4)).other (p := ⟨w.heap.size + 1 + 1, 5, none⟩) (by first | omega | (simp; done) | (simp; omega)) (Value.slice D5 x5.length x5.length)).other (p := ⟨w.heap.size + 1 + 1, 6, none⟩) (by first | omega | (simp; done) | (simp; omega)) (Value.string z6)).set 0 (Value.string z0)).set 1 (Value.slice D1 x1.length x1.length)).set 2 (Value.slice D2 x2.length x2.length)).set 3 (Value.slice D3 x3.length x3.length)).set 4 (Value.bool z4)).set 5 (Value.slice D5 x5.length x5.length)).set 6 (Value.string z6)))
  obtain ⟨i9, hi9, _, hs9, _⟩ := info_parts infoRule
  refine bodyPost_ret (results_cell_row rfl _ _ (w.heap.size + 1) T9 #[.string z0, .slice D1 x1.length x1.length, .slice D2 x2.length x2.length, .slice D3 x3.length x3.length, .bool z4, .slice D5 x5.length x5.length, .string z6] _ _ rfl hT9 Tryz.underlying37 rfl (by rw [hi9, Option.map_some, hs9]; rfl)) rfl ?_
  have key : ∀ {u : World}, Mod w.heap.size (w.heap.size + 3) w3 u → OwnR rule w.heap.size u.heap.size u [.string z0, .slice D1 x1.length x1.length, .slice D2 x2.length x2.length, .slice D3 x3.length x3.length, .bool z4, .slice D5 x5.length x5.length, .string z6] (z0, x1, x2, x3, (z4, x5, z6)) ∧ Below w.heap.size w u := fun {u} hm => by
    have hs := hm.size
    have o0 := OwnR.keep o0 hm (Or.inr (by omega))
    have o1 := OwnR.keep o1 hm (Or.inr (by omega))
    have o2 := OwnR.keep o2 hm (Or.inr (by omega))
    have o3 := OwnR.keep o3 hm (Or.inr (by omega))
    exact ⟨(OwnR.prod (mid := w.heap.size) (OwnR.str (by omega) z0) (OwnR.prod (mid := w0.heap.size) (o0.wider (lo' := w.heap.size) (hi' := w0.heap.size) (by omega) (by omega) (by omega)) (OwnR.prod (mid := w1.heap.size) (o1.wider (lo' := w0.heap.size) (hi' := w1.heap.size) (by omega) (by omega) (by omega)) (OwnR.prod (mid := w2.heap.size) (o2.wider (lo' := w1.heap.size) (hi' := w2.heap.size) (by omega) (by omega) (by omega)) (o3.wider (by omega) (by omega) (Nat.le_refl _)) (by omega) (by omega)) (by omega) (by omega)) (by omega) (by omega)) (by omega) (by omega)), below_mod B3 hm (Nat.le_refl _) B3.size⟩
  refine ⟨D1, D2, D3, D5, rfl, key ?_⟩
  repeat (first | with_reducible exact Mod.refl _ _ _ | refine Mod.trans ?_ (Mod.set _ (by first | omega | (simp; done) | (simp; omega)) (by first | omega | (simp; done) | (simp; omega)) _))
set_option maxHeartbeats 4000000 in
set_option maxRecDepth 100000 in
theorem sizeRuleU (q1 : Bool) (f1 : List Nat) (q2 : Bool) (f2 : List Nat) (q3 : Bool) (f3 : List Nat) (q5 : Bool) (f5 : List Nat) (z0 : ByteArray) (A1 : Option Addr) (c1 : Nat) (x1 : List PatternT) (A2 : Option Addr) (c2 : Nat) (x2 : List SumT) (A3 : Option Addr) (c3 : Nat) (x3 : List CallT) (z4 : Bool) (A5 : Option Addr) (c5 : Nat) (x5 : List SumT) (z6 : ByteArray) (L : Nat) (w : World) (h1 : (Rep.slice pat).rep q1 w f1 [.slice A1 x1.length c1] x1) (h2 : (Rep.slice sum).rep q2 w f2 [.slice A2 x2.length c2] x2) (h3 : (Rep.slice call).rep q3 w f3 [.slice A3 x3.length c3] x3) (h5 : (Rep.slice sum).rep q5 w f5 [.slice A5 x5.length c5] x5) (hL : L ≤ 1000000000) (hs : WfRuleU (z0, x1, x2, x3, (z4, x5, z6))) :
    Calls Tryz.prog 4 #[.agg #[.string z0, .slice A1 x1.length c1, .slice A2 x2.length c2, .slice A3 x3.length c3, .bool z4, .slice A5 x5.length c5, .string z6], .int .i64 L] w fun e w' => e = .returned (.int .i64 (IntK.leftOf L (szRuleU (z0, x1, x2, x3, (z4, x5, z6))))) ∧ Below w.heap.size w w' := by
  simp only [WfRuleU] at hs
  obtain ⟨hs0, hs1a, hs1b, hs2a, hs2b, hs3a, hs3b, hs4⟩ := hs
  have B0 := Lib.hid ((Below.refl w.heap.size w).alloc (Nat.le_refl _) (Obj.cells #[Value.string z0, Value.slice A1 x1.length c1, Value.slice A2 x2.length c2, Value.slice A3 x3.length c3, Value.bool z4, Value.slice A5 x5.length c5, Value.string z6] 28))
  have V0 := Lib.hid (Lvar.new w #[Value.string z0, Value.slice A1 x1.length c1, Value.slice A2 x2.length c2, Value.slice A3 x3.length c3, Value.bool z4, Value.slice A5 x5.length c5, Value.string z6] 28)
  by_cases g0 : z0.size ≤ L
  · obtain ⟨m0, hm0⟩ : ∃ m : Nat, m = L - z0.size := ⟨_, rfl⟩
    have hq0 : (L : Int) - (z0.size : Int) = (m0 : Int) := by omega
    have hd0 : decide ((m0 : Int) < 0) = false := decide_eq_false (by omega)
    have HM0 := Lib.hid (show m0 + z0.size = L by omega)
    have hL0 : m0 ≤ 1000000000 := by omega
    clear g0 hm0
    have SZ1 := fun W (h : Below w.heap.size w W) => sizePatternSU q1 f1 A1 c1 m0 x1 W (Rep.below h1 h) (by omega) hs1a hs1b
    unfold IntK.leftOf at SZ1
    by_cases g1 : (x1.length + szs szPatternU x1) ≤ m0
    · obtain ⟨m1, hm1⟩ : ∃ m : Nat, m = m0 - (x1.length + szs szPatternU x1) := ⟨_, rfl⟩
      simp only [if_pos g1, show ((m0 : Nat) : Int) - (((x1.length + szs szPatternU x1) : Nat) : Int) = (m1 : Int) by omega] at SZ1
      have hd1 : decide ((m1 : Int) < 0) = false := decide_eq_false (by omega)
      have HM1 := Lib.hid (show m1 + (x1.length + szs szPatternU x1) = m0 by omega)
      have SZ1 := Lib.hid SZ1
      have hL1 : m1 ≤ 1000000000 := by omega
      clear g1 hm1
      have SZ2 := fun W (h : Below w.heap.size w W) => sizeSumSU q2 f2 A2 c2 m1 x2 W (Rep.below h2 h) (by omega) hs2a hs2b
      unfold IntK.leftOf at SZ2
      by_cases g2 : (x2.length + szs szSum x2) ≤ m1
      · obtain ⟨m2, hm2⟩ : ∃ m : Nat, m = m1 - (x2.length + szs szSum x2) := ⟨_, rfl⟩
        simp only [if_pos g2, show ((m1 : Nat) : Int) - (((x2.length + szs szSum x2) : Nat) : Int) = (m2 : Int) by omega] at SZ2
        have hd2 : decide ((m2 : Int) < 0) = false := decide_eq_false (by omega)
        have HM2 := Lib.hid (show m2 + (x2.length + szs szSum x2) = m1 by omega)
        have SZ2 := Lib.hid SZ2
        have hL2 : m2 ≤ 1000000000 := by omega
        clear g2 hm2
        have SZ3 := fun W (h : Below w.heap.size w W) => sizeCallSU q3 f3 A3 c3 m2 x3 W (Rep.below h3 h) (by omega) hs3a hs3b
        unfold IntK.leftOf at SZ3
        by_cases g3 : (x3.length + szs szCallU x3) ≤ m2
        · obtain ⟨m3, hm3⟩ : ∃ m : Nat, m = m2 - (x3.length + szs szCallU x3) := ⟨_, rfl⟩
          simp only [if_pos g3, show ((m2 : Nat) : Int) - (((x3.length + szs szCallU x3) : Nat) : Int) = (m3 : Int) by omega] at SZ3
          have hd3 : decide ((m3 : Int) < 0) = false := decide_eq_false (by omega)
          have HM3 := Lib.hid (show m3 + (x3.length + szs szCallU x3) = m2 by omega)
          have SZ3 := Lib.hid SZ3
          have hL3 : m3 ≤ 1000000000 := by omega
          clear g3 hm3
          have SZ4 := fun W (h : Below w.heap.size w W) => sizeArgU q5 f5 z4 A5 c5 x5 z6 m3 W (Rep.below h5 h) (by omega) hs4
          unfold IntK.leftOf at SZ4
          by_cases g4 : (szArgU (z4, x5, z6)) ≤ m3
          · obtain ⟨m4, hm4⟩ : ∃ m : Nat, m = m3 - (szArgU (z4, x5, z6)) := ⟨_, rfl⟩
            simp only [if_pos g4, show ((m3 : Nat) : Int) - (((szArgU (z4, x5, z6)) : Nat) : Int) = (m4 : Int) by omega] at SZ4
            have hd4 : decide ((m4 : Int) < 0) = false := decide_eq_false (by omega)
            have HM4 := Lib.hid (show m4 + (szArgU (z4, x5, z6)) = m3 by omega)
            have SZ4 := Lib.hid SZ4
            have hL4 : m4 ≤ 1000000000 := by omega
            clear g4 hm4
            have HR := Lib.hid (show IntK.leftOf L (szRuleU (z0, x1, x2, x3, (z4, x5, z6))) = (m4 : Int) by simp only [szRuleU]; unfold IntK.leftOf; have := HM0.out; have := HM1.out; have := HM2.out; have := HM3.out; have := HM4.out; rw [if_pos (by omega)]; omega)
            clear hs1a hs1b hs2a hs2b hs3a hs3b hs4 h1 h2 h3 h5
            go_enter Tryz.func4, Tryz.ntmps4
            go_wp2_with fail
            refine (Calls.mono (SZ1.out _ B0.out)) ?_
            rintro e w1 ⟨rfl, b1⟩
            have B1 := Lib.hid (below_step B0.out b1)
            have V1 := Lib.hid (V0.out.below b1)
            clear b1
            have v1_0 := V1.out.cell 0 _ rfl
            have v1_1 := V1.out.cell 1 _ rfl
            have v1_2 := V1.out.cell 2 _ rfl
            have v1_3 := V1.out.cell 3 _ rfl
            have v1_4 := V1.out.cell 4 _ rfl
            have v1_5 := V1.out.cell 5 _ rfl
            have v1_6 := V1.out.cell 6 _ rfl
            go_wp2_with fail
            refine (Calls.mono (SZ2.out _ B1.out)) ?_
            rintro e w2 ⟨rfl, b2⟩
            have B2 := Lib.hid (below_step B1.out b2)
            have V2 := Lib.hid (V1.out.below b2)
            clear b2
            have v2_0 := V2.out.cell 0 _ rfl
            have v2_1 := V2.out.cell 1 _ rfl
            have v2_2 := V2.out.cell 2 _ rfl
            have v2_3 := V2.out.cell 3 _ rfl
            have v2_4 := V2.out.cell 4 _ rfl
            have v2_5 := V2.out.cell 5 _ rfl
            have v2_6 := V2.out.cell 6 _ rfl
            clear v1_0 v1_1 v1_2 v1_3 v1_4 v1_5 v1_6
            go_wp2_with fail
            refine (Calls.mono (SZ3.out _ B2.out)) ?_
            rintro e w3 ⟨rfl, b3⟩
            have B3 := Lib.hid (below_step B2.out b3)
            have V3 := Lib.hid (V2.out.below b3)
            clear b3
            have v3_0 := V3.out.cell 0 _ rfl
            have v3_1 := V3.out.cell 1 _ rfl
            have v3_2 := V3.out.cell 2 _ rfl
            have v3_3 := V3.out.cell 3 _ rfl
            have v3_4 := V3.out.cell 4 _ rfl
            have v3_5 := V3.out.cell 5 _ rfl
            have v3_6 := V3.out.cell 6 _ rfl
            clear v2_0 v2_1 v2_2 v2_3 v2_4 v2_5 v2_6
            go_wp2_with fail
            refine (Calls.mono (SZ4.out _ B3.out)) ?_
            rintro e w4 ⟨rfl, b4⟩
            have B4 := Lib.hid (below_step B3.out b4)
            have V4 := Lib.hid (V3.out.below b4)
            clear b4
            have v4_0 := V4.out.cell 0 _ rfl
            have v4_1 := V4.out.cell 1 _ rfl
            have v4_2 := V4.out.cell 2 _ rfl
            have v4_3 := V4.out.cell 3 _ rfl
            have v4_4 := V4.out.cell 4 _ rfl
            have v4_5 := V4.out.cell 5 _ rfl
            have v4_6 := V4.out.cell 6 _ rfl
            clear v3_0 v3_1 v3_2 v3_3 v3_4 v3_5 v3_6
            go_wp2
            go_ret
            exact ⟨by rw [HR.out]; rfl, B4.out⟩
          · have HM := Lib.hid g4
            simp only [if_neg g4] at SZ4
            have SZ4 := Lib.hid SZ4
            clear g4
            have HR := Lib.hid (show IntK.leftOf L (szRuleU (z0, x1, x2, x3, (z4, x5, z6))) = -1 by simp only [szRuleU]; unfold IntK.leftOf; have := HM0.out; have := HM1.out; have := HM2.out; have := HM3.out; have := HM.out; rw [if_neg (by omega)])
            clear hs1a hs1b hs2a hs2b hs3a hs3b hs4 h1 h2 h3 h5
            go_enter Tryz.func4, Tryz.ntmps4
            go_wp2_with fail
            refine (Calls.mono (SZ1.out _ B0.out)) ?_
            rintro e w1 ⟨rfl, b1⟩
            have B1 := Lib.hid (below_step B0.out b1)
            have V1 := Lib.hid (V0.out.below b1)
            clear b1
            have v1_0 := V1.out.cell 0 _ rfl
            have v1_1 := V1.out.cell 1 _ rfl
            have v1_2 := V1.out.cell 2 _ rfl
            have v1_3 := V1.out.cell 3 _ rfl
            have v1_4 := V1.out.cell 4 _ rfl
            have v1_5 := V1.out.cell 5 _ rfl
            have v1_6 := V1.out.cell 6 _ rfl
            go_wp2_with fail
            refine (Calls.mono (SZ2.out _ B1.out)) ?_
            rintro e w2 ⟨rfl, b2⟩
            have B2 := Lib.hid (below_step B1.out b2)
            have V2 := Lib.hid (V1.out.below b2)
            clear b2
            have v2_0 := V2.out.cell 0 _ rfl
            have v2_1 := V2.out.cell 1 _ rfl
            have v2_2 := V2.out.cell 2 _ rfl
            have v2_3 := V2.out.cell 3 _ rfl
            have v2_4 := V2.out.cell 4 _ rfl
            have v2_5 := V2.out.cell 5 _ rfl
            have v2_6 := V2.out.cell 6 _ rfl
            clear v1_0 v1_1 v1_2 v1_3 v1_4 v1_5 v1_6
            go_wp2_with fail
            refine (Calls.mono (SZ3.out _ B2.out)) ?_
            rintro e w3 ⟨rfl, b3⟩
            have B3 := Lib.hid (below_step B2.out b3)
            have V3 := Lib.hid (V2.out.below b3)
            clear b3
            have v3_0 := V3.out.cell 0 _ rfl
            have v3_1 := V3.out.cell 1 _ rfl
            have v3_2 := V3.out.cell 2 _ rfl
            have v3_3 := V3.out.cell 3 _ rfl
            have v3_4 := V3.out.cell 4 _ rfl
            have v3_5 := V3.out.cell 5 _ rfl
            have v3_6 := V3.out.cell 6 _ rfl
            clear v2_0 v2_1 v2_2 v2_3 v2_4 v2_5 v2_6
            go_wp2_with fail
            refine (Calls.mono (SZ4.out _ B3.out)) ?_
            rintro e w4 ⟨rfl, b4⟩
            have B4 := Lib.hid (below_step B3.out b4)
            have V4 := Lib.hid (V3.out.below b4)
            clear b4
            have v4_0 := V4.out.cell 0 _ rfl
            have v4_1 := V4.out.cell 1 _ rfl
            have v4_2 := V4.out.cell 2 _ rfl
            have v4_3 := V4.out.cell 3 _ rfl
            have v4_4 := V4.out.cell 4 _ rfl
            have v4_5 := V4.out.cell 5 _ rfl
            have v4_6 := V4.out.cell 6 _ rfl
            clear v3_0 v3_1 v3_2 v3_3 v3_4 v3_5 v3_6
            go_wp2
            go_ret
            exact ⟨by rw [HR.out]; rfl, B4.out⟩
        · have HM := Lib.hid g3
          simp only [if_neg g3] at SZ3
          have SZ3 := Lib.hid SZ3
          clear g3
          have HR := Lib.hid (show IntK.leftOf L (szRuleU (z0, x1, x2, x3, (z4, x5, z6))) = -1 by simp only [szRuleU]; unfold IntK.leftOf; have := HM0.out; have := HM1.out; have := HM2.out; have := HM.out; rw [if_neg (by omega)])
          clear hs1a hs1b hs2a hs2b hs3a hs3b hs4 h1 h2 h3 h5
          go_enter Tryz.func4, Tryz.ntmps4
          go_wp2_with fail
          refine (Calls.mono (SZ1.out _ B0.out)) ?_
          rintro e w1 ⟨rfl, b1⟩
          have B1 := Lib.hid (below_step B0.out b1)
          have V1 := Lib.hid (V0.out.below b1)
          clear b1
          have v1_0 := V1.out.cell 0 _ rfl
          have v1_1 := V1.out.cell 1 _ rfl
          have v1_2 := V1.out.cell 2 _ rfl
          have v1_3 := V1.out.cell 3 _ rfl
          have v1_4 := V1.out.cell 4 _ rfl
          have v1_5 := V1.out.cell 5 _ rfl
          have v1_6 := V1.out.cell 6 _ rfl
          go_wp2_with fail
          refine (Calls.mono (SZ2.out _ B1.out)) ?_
          rintro e w2 ⟨rfl, b2⟩
          have B2 := Lib.hid (below_step B1.out b2)
          have V2 := Lib.hid (V1.out.below b2)
          clear b2
          have v2_0 := V2.out.cell 0 _ rfl
          have v2_1 := V2.out.cell 1 _ rfl
          have v2_2 := V2.out.cell 2 _ rfl
          have v2_3 := V2.out.cell 3 _ rfl
          have v2_4 := V2.out.cell 4 _ rfl
          have v2_5 := V2.out.cell 5 _ rfl
          have v2_6 := V2.out.cell 6 _ rfl
          clear v1_0 v1_1 v1_2 v1_3 v1_4 v1_5 v1_6
          go_wp2_with fail
          refine (Calls.mono (SZ3.out _ B2.out)) ?_
          rintro e w3 ⟨rfl, b3⟩
          have B3 := Lib.hid (below_step B2.out b3)
          have V3 := Lib.hid (V2.out.below b3)
          clear b3
          have v3_0 := V3.out.cell 0 _ rfl
          have v3_1 := V3.out.cell 1 _ rfl
          have v3_2 := V3.out.cell 2 _ rfl
          have v3_3 := V3.out.cell 3 _ rfl
          have v3_4 := V3.out.cell 4 _ rfl
          have v3_5 := V3.out.cell 5 _ rfl
          have v3_6 := V3.out.cell 6 _ rfl
          clear v2_0 v2_1 v2_2 v2_3 v2_4 v2_5 v2_6
          go_wp2
          go_ret
          exact ⟨by rw [HR.out]; rfl, B3.out⟩
      · have HM := Lib.hid g2
        simp only [if_neg g2] at SZ2
        have SZ2 := Lib.hid SZ2
        clear g2
        have HR := Lib.hid (show IntK.leftOf L (szRuleU (z0, x1, x2, x3, (z4, x5, z6))) = -1 by simp only [szRuleU]; unfold IntK.leftOf; have := HM0.out; have := HM1.out; have := HM.out; rw [if_neg (by omega)])
        clear hs1a hs1b hs2a hs2b hs3a hs3b hs4 h1 h2 h3 h5
        go_enter Tryz.func4, Tryz.ntmps4
        go_wp2_with fail
        refine (Calls.mono (SZ1.out _ B0.out)) ?_
        rintro e w1 ⟨rfl, b1⟩
        have B1 := Lib.hid (below_step B0.out b1)
        have V1 := Lib.hid (V0.out.below b1)
        clear b1
        have v1_0 := V1.out.cell 0 _ rfl
        have v1_1 := V1.out.cell 1 _ rfl
        have v1_2 := V1.out.cell 2 _ rfl
        have v1_3 := V1.out.cell 3 _ rfl
        have v1_4 := V1.out.cell 4 _ rfl
        have v1_5 := V1.out.cell 5 _ rfl
        have v1_6 := V1.out.cell 6 _ rfl
        go_wp2_with fail
        refine (Calls.mono (SZ2.out _ B1.out)) ?_
        rintro e w2 ⟨rfl, b2⟩
        have B2 := Lib.hid (below_step B1.out b2)
        have V2 := Lib.hid (V1.out.below b2)
        clear b2
        have v2_0 := V2.out.cell 0 _ rfl
        have v2_1 := V2.out.cell 1 _ rfl
        have v2_2 := V2.out.cell 2 _ rfl
        have v2_3 := V2.out.cell 3 _ rfl
        have v2_4 := V2.out.cell 4 _ rfl
        have v2_5 := V2.out.cell 5 _ rfl
        have v2_6 := V2.out.cell 6 _ rfl
        clear v1_0 v1_1 v1_2 v1_3 v1_4 v1_5 v1_6
        go_wp2
        go_ret
        exact ⟨by rw [HR.out]; rfl, B2.out⟩
    · have HM := Lib.hid g1
      simp only [if_neg g1] at SZ1
      have SZ1 := Lib.hid SZ1
      clear g1
      have HR := Lib.hid (show IntK.leftOf L (szRuleU (z0, x1, x2, x3, (z4, x5, z6))) = -1 by simp only [szRuleU]; unfold IntK.leftOf; have := HM0.out; have := HM.out; rw [if_neg (by omega)])
      clear hs1a hs1b hs2a hs2b hs3a hs3b hs4 h1 h2 h3 h5
      go_enter Tryz.func4, Tryz.ntmps4
      go_wp2_with fail
      refine (Calls.mono (SZ1.out _ B0.out)) ?_
      rintro e w1 ⟨rfl, b1⟩
      have B1 := Lib.hid (below_step B0.out b1)
      have V1 := Lib.hid (V0.out.below b1)
      clear b1
      have v1_0 := V1.out.cell 0 _ rfl
      have v1_1 := V1.out.cell 1 _ rfl
      have v1_2 := V1.out.cell 2 _ rfl
      have v1_3 := V1.out.cell 3 _ rfl
      have v1_4 := V1.out.cell 4 _ rfl
      have v1_5 := V1.out.cell 5 _ rfl
      have v1_6 := V1.out.cell 6 _ rfl
      go_wp2
      go_ret
      exact ⟨by rw [HR.out]; rfl, B1.out⟩
  · have HM := Lib.hid g0
    have hd0 : decide ((L : Int) - (z0.size : Int) < 0) = true := decide_eq_true (by omega)
    clear g0
    have HR := Lib.hid (show IntK.leftOf L (szRuleU (z0, x1, x2, x3, (z4, x5, z6))) = -1 by simp only [szRuleU]; unfold IntK.leftOf; have := HM.out; rw [if_neg (by omega)])
    clear hs1a hs1b hs2a hs2b hs3a hs3b hs4 h1 h2 h3 h5
    go_enter Tryz.func4, Tryz.ntmps4
    go_wp2
    go_ret
    exact ⟨by rw [HR.out]; rfl, B0.out⟩
set_option maxHeartbeats 4000000 in
set_option maxRecDepth 100000 in
theorem eqRuleU (q1 p1 : Bool) (f1 g1 : List Nat) (q2 p2 : Bool) (f2 g2 : List Nat) (q3 p3 : Bool) (f3 g3 : List Nat) (q5 p5 : Bool) (f5 g5 : List Nat) (z0 : ByteArray) (A1 : Option Addr) (c1 : Nat) (x1 : List PatternT) (A2 : Option Addr) (c2 : Nat) (x2 : List SumT) (A3 : Option Addr) (c3 : Nat) (x3 : List CallT) (z4 : Bool) (A5 : Option Addr) (c5 : Nat) (x5 : List SumT) (z6 : ByteArray) (B1 : Option Addr) (d1 : Nat) (B2 : Option Addr) (d2 : Nat) (B3 : Option Addr) (d3 : Nat) (B5 : Option Addr) (d5 : Nat) (w : World) (h1 : (Rep.slice pat).rep q1 w f1 [.slice A1 x1.length c1] x1) (h2 : (Rep.slice sum).rep q2 w f2 [.slice A2 x2.length c2] x2) (h3 : (Rep.slice call).rep q3 w f3 [.slice A3 x3.length c3] x3) (h5 : (Rep.slice sum).rep q5 w f5 [.slice A5 x5.length c5] x5) (k1 : (Rep.slice pat).rep p1 w g1 [.slice B1 x1.length d1] x1) (k2 : (Rep.slice sum).rep p2 w g2 [.slice B2 x2.length d2] x2) (k3 : (Rep.slice call).rep p3 w g3 [.slice B3 x3.length d3] x3) (k5 : (Rep.slice sum).rep p5 w g5 [.slice B5 x5.length d5] x5) (hl : szRuleU (z0, x1, x2, x3, (z4, x5, z6)) ≤ 100000000) :
    Calls Tryz.prog 8 #[.agg #[.string z0, .slice A1 x1.length c1, .slice A2 x2.length c2, .slice A3 x3.length c3, .bool z4, .slice A5 x5.length c5, .string z6], .agg #[.string z0, .slice B1 x1.length d1, .slice B2 x2.length d2, .slice B3 x3.length d3, .bool z4, .slice B5 x5.length d5, .string z6]] w fun e w' => e = .returned (.bool true) ∧ Below w.heap.size w w' := by
  simp only [szRuleU] at hl
  have EQ0 := Lib.hid (fun W (h : Below w.heap.size w W) => eqPatternSU q1 p1 f1 g1 A1 B1 c1 d1 x1 W (Rep.below h1 h) (Rep.below k1 h) (by omega))
  have EQ1 := Lib.hid (fun W (h : Below w.heap.size w W) => eqSumSU q2 p2 f2 g2 A2 B2 c2 d2 x2 W (Rep.below h2 h) (Rep.below k2 h) (by omega))
  have EQ2 := Lib.hid (fun W (h : Below w.heap.size w W) => eqCallSU q3 p3 f3 g3 A3 B3 c3 d3 x3 W (Rep.below h3 h) (Rep.below k3 h) (by omega))
  have EQ3 := Lib.hid (fun W (h : Below w.heap.size w W) => eqArgU q5 p5 f5 g5 z4 A5 c5 x5 z6 B5 d5 W (Rep.below h5 h) (Rep.below k5 h) (by simp only [szArgU] at hl ⊢; omega))
  have BB0 := Lib.hid (((Below.refl w.heap.size w).alloc (Nat.le_refl _) (Obj.cells #[Value.string z0, Value.slice A1 x1.length c1, Value.slice A2 x2.length c2, Value.slice A3 x3.length c3, Value.bool z4, Value.slice A5 x5.length c5, Value.string z6] 37)).alloc (by simp) (Obj.cells #[Value.string z0, Value.slice B1 x1.length d1, Value.slice B2 x2.length d2, Value.slice B3 x3.length d3, Value.bool z4, Value.slice B5 x5.length d5, Value.string z6] 37))
  have V0 := Lib.hid ((Lvar.new w #[Value.string z0, Value.slice A1 x1.length c1, Value.slice A2 x2.length c2, Value.slice A3 x3.length c3, Value.bool z4, Value.slice A5 x5.length c5, Value.string z6] 37).alloc (Obj.cells #[Value.string z0, Value.slice B1 x1.length d1, Value.slice B2 x2.length d2, Value.slice B3 x3.length d3, Value.bool z4, Value.slice B5 x5.length d5, Value.string z6] 37))
  have U0 := Lib.hid (Lvar.new (w.alloc (Obj.cells #[Value.string z0, Value.slice A1 x1.length c1, Value.slice A2 x2.length c2, Value.slice A3 x3.length c3, Value.bool z4, Value.slice A5 x5.length c5, Value.string z6] 37)) #[Value.string z0, Value.slice B1 x1.length d1, Value.slice B2 x2.length d2, Value.slice B3 x3.length d3, Value.bool z4, Value.slice B5 x5.length d5, Value.string z6] 37)
  simp only [World.size_alloc] at U0
  clear hl h1 k1 h2 k2 h3 k3 h5 k5
  go_enter Tryz.func8, Tryz.ntmps8
  go_wp2_with fail
  refine (Calls.mono (EQ0.out _ ?_)) ?_
  · first | exact BB0.out | exact BB0.out.drew | exact below_drewN BB0.out _
  rintro e w1 ⟨rfl, b1⟩
  have BB1 := Lib.hid (show Below w.heap.size w w1 from by first | exact BB0.out.trans (b1.mono BB0.out.size) | exact BB0.out.drew.trans (b1.mono BB0.out.size) | exact (below_drewN BB0.out _).trans (b1.mono BB0.out.size))
  have V1 := Lib.hid (show Lvar w1 _ _ from by first | exact V0.out.below b1 | exact (V0.out.below (Below.refl _ _).drew).below b1)
  have v1_0 := V1.out.cell 0 _ rfl
  have v1_1 := V1.out.cell 1 _ rfl
  have v1_2 := V1.out.cell 2 _ rfl
  have v1_3 := V1.out.cell 3 _ rfl
  have v1_4 := V1.out.cell 4 _ rfl
  have v1_5 := V1.out.cell 5 _ rfl
  have v1_6 := V1.out.cell 6 _ rfl
  have U1 := Lib.hid (show Lvar w1 _ _ from by first | exact U0.out.below b1 | exact (U0.out.below (Below.refl _ _).drew).below b1)
  have u1_0 := U1.out.cell 0 _ rfl
  have u1_1 := U1.out.cell 1 _ rfl
  have u1_2 := U1.out.cell 2 _ rfl
  have u1_3 := U1.out.cell 3 _ rfl
  have u1_4 := U1.out.cell 4 _ rfl
  have u1_5 := U1.out.cell 5 _ rfl
  have u1_6 := U1.out.cell 6 _ rfl
  clear b1
  go_wp2_with fail
  refine (Calls.mono (EQ1.out _ ?_)) ?_
  · first | exact BB1.out | exact BB1.out.drew | exact below_drewN BB1.out _
  rintro e w2 ⟨rfl, b2⟩
  have BB2 := Lib.hid (show Below w.heap.size w w2 from by first | exact BB1.out.trans (b2.mono BB1.out.size) | exact BB1.out.drew.trans (b2.mono BB1.out.size) | exact (below_drewN BB1.out _).trans (b2.mono BB1.out.size))
  have V2 := Lib.hid (show Lvar w2 _ _ from by first | exact V1.out.below b2 | exact (V1.out.below (Below.refl _ _).drew).below b2)
  have v2_0 := V2.out.cell 0 _ rfl
  have v2_1 := V2.out.cell 1 _ rfl
  have v2_2 := V2.out.cell 2 _ rfl
  have v2_3 := V2.out.cell 3 _ rfl
  have v2_4 := V2.out.cell 4 _ rfl
  have v2_5 := V2.out.cell 5 _ rfl
  have v2_6 := V2.out.cell 6 _ rfl
  clear v1_0 v1_1 v1_2 v1_3 v1_4 v1_5 v1_6
  have U2 := Lib.hid (show Lvar w2 _ _ from by first | exact U1.out.below b2 | exact (U1.out.below (Below.refl _ _).drew).below b2)
  have u2_0 := U2.out.cell 0 _ rfl
  have u2_1 := U2.out.cell 1 _ rfl
  have u2_2 := U2.out.cell 2 _ rfl
  have u2_3 := U2.out.cell 3 _ rfl
  have u2_4 := U2.out.cell 4 _ rfl
  have u2_5 := U2.out.cell 5 _ rfl
  have u2_6 := U2.out.cell 6 _ rfl
  clear u1_0 u1_1 u1_2 u1_3 u1_4 u1_5 u1_6
  clear b2
  go_wp2_with fail
  refine (Calls.mono (EQ2.out _ ?_)) ?_
  · first | exact BB2.out | exact BB2.out.drew | exact below_drewN BB2.out _
  rintro e w3 ⟨rfl, b3⟩
  have BB3 := Lib.hid (show Below w.heap.size w w3 from by first | exact BB2.out.trans (b3.mono BB2.out.size) | exact BB2.out.drew.trans (b3.mono BB2.out.size) | exact (below_drewN BB2.out _).trans (b3.mono BB2.out.size))
  have V3 := Lib.hid (show Lvar w3 _ _ from by first | exact V2.out.below b3 | exact (V2.out.below (Below.refl _ _).drew).below b3)
  have v3_0 := V3.out.cell 0 _ rfl
  have v3_1 := V3.out.cell 1 _ rfl
  have v3_2 := V3.out.cell 2 _ rfl
  have v3_3 := V3.out.cell 3 _ rfl
  have v3_4 := V3.out.cell 4 _ rfl
  have v3_5 := V3.out.cell 5 _ rfl
  have v3_6 := V3.out.cell 6 _ rfl
  clear v2_0 v2_1 v2_2 v2_3 v2_4 v2_5 v2_6
  have U3 := Lib.hid (show Lvar w3 _ _ from by first | exact U2.out.below b3 | exact (U2.out.below (Below.refl _ _).drew).below b3)
  have u3_0 := U3.out.cell 0 _ rfl
  have u3_1 := U3.out.cell 1 _ rfl
  have u3_2 := U3.out.cell 2 _ rfl
  have u3_3 := U3.out.cell 3 _ rfl
  have u3_4 := U3.out.cell 4 _ rfl
  have u3_5 := U3.out.cell 5 _ rfl
  have u3_6 := U3.out.cell 6 _ rfl
  clear u2_0 u2_1 u2_2 u2_3 u2_4 u2_5 u2_6
  clear b3
  go_wp2_with fail
  refine (Calls.mono (EQ3.out _ ?_)) ?_
  · first | exact BB3.out | exact BB3.out.drew | exact below_drewN BB3.out _
  rintro e w4 ⟨rfl, b4⟩
  have BB4 := Lib.hid (show Below w.heap.size w w4 from by first | exact BB3.out.trans (b4.mono BB3.out.size) | exact BB3.out.drew.trans (b4.mono BB3.out.size) | exact (below_drewN BB3.out _).trans (b4.mono BB3.out.size))
  have V4 := Lib.hid (show Lvar w4 _ _ from by first | exact V3.out.below b4 | exact (V3.out.below (Below.refl _ _).drew).below b4)
  have v4_0 := V4.out.cell 0 _ rfl
  have v4_1 := V4.out.cell 1 _ rfl
  have v4_2 := V4.out.cell 2 _ rfl
  have v4_3 := V4.out.cell 3 _ rfl
  have v4_4 := V4.out.cell 4 _ rfl
  have v4_5 := V4.out.cell 5 _ rfl
  have v4_6 := V4.out.cell 6 _ rfl
  clear v3_0 v3_1 v3_2 v3_3 v3_4 v3_5 v3_6
  have U4 := Lib.hid (show Lvar w4 _ _ from by first | exact U3.out.below b4 | exact (U3.out.below (Below.refl _ _).drew).below b4)
  have u4_0 := U4.out.cell 0 _ rfl
  have u4_1 := U4.out.cell 1 _ rfl
  have u4_2 := U4.out.cell 2 _ rfl
  have u4_3 := U4.out.cell 3 _ rfl
  have u4_4 := U4.out.cell 4 _ rfl
  have u4_5 := U4.out.cell 5 _ rfl
  have u4_6 := U4.out.cell 6 _ rfl
  clear u3_0 u3_1 u3_2 u3_3 u3_4 u3_5 u3_6
  clear b4
  go_wp2
  go_ret
  exact ⟨rfl, BB4.out⟩
theorem copyRuleA (z0 : ByteArray) (A1 : Option Addr) (c1 : Nat) (x1 : List PatternT) (A2 : Option Addr) (c2 : Nat) (x2 : List SumT) (A3 : Option Addr) (c3 : Nat) (x3 : List CallT) (z4 : Bool) (A5 : Option Addr) (c5 : Nat) (x5 : List SumT) (z6 : ByteArray) (w : World) (h : ArgR rule w [.string z0, .slice A1 x1.length c1, .slice A2 x2.length c2, .slice A3 x3.length c3, .bool z4, .slice A5 x5.length c5, .string z6] (z0, x1, x2, x3, (z4, x5, z6))) (hl : szRuleU (z0, x1, x2, x3, (z4, x5, z6)) ≤ 100000000) :
    Calls Tryz.prog 6 #[.agg #[.string z0, .slice A1 x1.length c1, .slice A2 x2.length c2, .slice A3 x3.length c3, .bool z4, .slice A5 x5.length c5, .string z6]] w fun e w' => ∃ B1 B2 B3 B5, e = .returned (.agg #[.string z0, .slice B1 x1.length x1.length, .slice B2 x2.length x2.length, .slice B3 x3.length x3.length, .bool z4, .slice B5 x5.length x5.length, .string z6]) ∧ OwnR rule w.heap.size w'.heap.size w' [.string z0, .slice B1 x1.length x1.length, .slice B2 x2.length x2.length, .slice B3 x3.length x3.length, .bool z4, .slice B5 x5.length x5.length, .string z6] (z0, x1, x2, x3, (z4, x5, z6)) ∧ Below w.heap.size w w' := by
  obtain ⟨q, fp, h⟩ := h
  obtain ⟨f1, f2, f3, f5, _, h1, h2, h3, h5⟩ := rule_parts h
  exact copyRuleU q f1 q f2 q f3 q f5 z0 A1 c1 x1 A2 c2 x2 A3 c3 x3 z4 A5 c5 x5 z6 w h1 h2 h3 h5 hl
theorem sizeRuleA (z0 : ByteArray) (A1 : Option Addr) (c1 : Nat) (x1 : List PatternT) (A2 : Option Addr) (c2 : Nat) (x2 : List SumT) (A3 : Option Addr) (c3 : Nat) (x3 : List CallT) (z4 : Bool) (A5 : Option Addr) (c5 : Nat) (x5 : List SumT) (z6 : ByteArray) (L : Nat) (w : World) (h : ArgR rule w [.string z0, .slice A1 x1.length c1, .slice A2 x2.length c2, .slice A3 x3.length c3, .bool z4, .slice A5 x5.length c5, .string z6] (z0, x1, x2, x3, (z4, x5, z6))) (hL : L ≤ 1000000000) (hs : WfRuleU (z0, x1, x2, x3, (z4, x5, z6))) :
    Calls Tryz.prog 4 #[.agg #[.string z0, .slice A1 x1.length c1, .slice A2 x2.length c2, .slice A3 x3.length c3, .bool z4, .slice A5 x5.length c5, .string z6], .int .i64 L] w fun e w' => e = .returned (.int .i64 (IntK.leftOf L (szRuleU (z0, x1, x2, x3, (z4, x5, z6))))) ∧ Below w.heap.size w w' := by
  obtain ⟨q, fp, h⟩ := h
  obtain ⟨f1, f2, f3, f5, _, h1, h2, h3, h5⟩ := rule_parts h
  exact sizeRuleU q f1 q f2 q f3 q f5 z0 A1 c1 x1 A2 c2 x2 A3 c3 x3 z4 A5 c5 x5 z6 L w h1 h2 h3 h5 hL hs
theorem eqRuleA (z0 : ByteArray) (A1 : Option Addr) (c1 : Nat) (x1 : List PatternT) (A2 : Option Addr) (c2 : Nat) (x2 : List SumT) (A3 : Option Addr) (c3 : Nat) (x3 : List CallT) (z4 : Bool) (A5 : Option Addr) (c5 : Nat) (x5 : List SumT) (z6 : ByteArray) (B1 : Option Addr) (d1 : Nat) (B2 : Option Addr) (d2 : Nat) (B3 : Option Addr) (d3 : Nat) (B5 : Option Addr) (d5 : Nat) (w : World) (h : ArgR rule w [.string z0, .slice A1 x1.length c1, .slice A2 x2.length c2, .slice A3 x3.length c3, .bool z4, .slice A5 x5.length c5, .string z6] (z0, x1, x2, x3, (z4, x5, z6))) (k : ArgR rule w [.string z0, .slice B1 x1.length d1, .slice B2 x2.length d2, .slice B3 x3.length d3, .bool z4, .slice B5 x5.length d5, .string z6] (z0, x1, x2, x3, (z4, x5, z6))) (hl : szRuleU (z0, x1, x2, x3, (z4, x5, z6)) ≤ 100000000) :
    Calls Tryz.prog 8 #[.agg #[.string z0, .slice A1 x1.length c1, .slice A2 x2.length c2, .slice A3 x3.length c3, .bool z4, .slice A5 x5.length c5, .string z6], .agg #[.string z0, .slice B1 x1.length d1, .slice B2 x2.length d2, .slice B3 x3.length d3, .bool z4, .slice B5 x5.length d5, .string z6]] w fun e w' => e = .returned (.bool true) ∧ Below w.heap.size w w' := by
  obtain ⟨q, fp, h⟩ := h
  obtain ⟨f1, f2, f3, f5, _, h1, h2, h3, h5⟩ := rule_parts h
  obtain ⟨p, gp, k⟩ := k
  obtain ⟨g1, g2, g3, g5, _, k1, k2, k3, k5⟩ := rule_parts k
  exact eqRuleU q p f1 g1 q p f2 g2 q p f3 g3 q p f5 g5 z0 A1 c1 x1 A2 c2 x2 A3 c3 x3 z4 A5 c5 x5 z6 B1 d1 B2 d2 B3 d3 B5 d5 w h1 h2 h3 h5 k1 k2 k3 k5 hl
end Mem
end Go.Proofs.YtcdlgebbmcdadaaGreatDoor
