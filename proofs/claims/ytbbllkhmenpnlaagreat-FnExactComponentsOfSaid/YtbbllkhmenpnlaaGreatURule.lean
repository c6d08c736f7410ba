import Derived.Test.YtbbllkhmenpnlaaGreatRepUni
import Derived.Test.YtbbllkhmenpnlaaGreatUCall
import Derived.Deep.RegionLaw
import Derived.Deep.RegionHeld3
/-
  The laws' helpers on Rule: copies, sizes, comparison, marks (made by tools/ukit.py).
-/
namespace Go.Proofs.YtbbllkhmenpnlaaGreat
open Go.RowKit
namespace Mem
open RowK

abbrev RuleT := ByteArray × List PatternT × List SumT × List CallT × ArgT
def rule : Rep RuleT := Rep.prod Rep.str (Rep.prod (Rep.slice pat) (Rep.prod (Rep.slice sum) (Rep.prod (Rep.slice call) arg)))
theorem rule_open {q : Bool} {w : World} {fp : List Nat} {cs : List Value} {p : RuleT} (h : rule.rep q w fp cs p) : ∃ (A1 : Option Addr) (c1 : Nat) (f1 : List Nat) (A2 : Option Addr) (c2 : Nat) (f2 : List Nat) (A3 : Option Addr) (c3 : Nat) (f3 : List Nat) (A5 : Option Addr) (c5 : Nat) (f5 : List Nat), fp = f1 ++ f2 ++ f3 ++ f5 ∧ cs = [.string p.1, .slice A1 p.2.1.length c1, .slice A2 p.2.2.1.length c2, .slice A3 p.2.2.2.1.length c3, .bool p.2.2.2.2.1, .slice A5 p.2.2.2.2.2.1.length c5, .string p.2.2.2.2.2.2] ∧ (Rep.slice pat).rep q w f1 [.slice A1 p.2.1.length c1] p.2.1 ∧ (Rep.slice sum).rep q w f2 [.slice A2 p.2.2.1.length c2] p.2.2.1 ∧ (Rep.slice call).rep q w f3 [.slice A3 p.2.2.2.1.length c3] p.2.2.2.1 ∧ (Rep.slice sum).rep q w f5 [.slice A5 p.2.2.2.2.2.1.length c5] p.2.2.2.2.2.1 := by
 obtain ⟨g0, g0', d0, d0', rfl, rfl, k0, h'⟩ := h
 obtain ⟨rfl, rfl⟩ := k0
 obtain ⟨g1, g1', d1, d1', rfl, rfl, k1, h''⟩ := h'
 have r1 := k1
 obtain ⟨A1, c1, rfl, _⟩ := k1
 obtain ⟨g2, g2', d2, d2', rfl, rfl, k2, h'''⟩ := h''
 have r2 := k2
 obtain ⟨A2, c2, rfl, _⟩ := k2
 obtain ⟨g3, g3', d3, d3', rfl, rfl, k3, h''''⟩ := h'''
 have r3 := k3
 obtain ⟨A3, c3, rfl, _⟩ := k3
 obtain ⟨g4, g4', d4, d4', rfl, rfl, k4, h'''''⟩ := h''''
 obtain ⟨rfl, rfl⟩ := k4
 obtain ⟨g5, g5', d5, d5', rfl, rfl, k5, h''''''⟩ := h'''''
 have r5 := k5
 obtain ⟨A5, c5, rfl, _⟩ := k5
 obtain ⟨rfl, rfl⟩ := h''''''
 exact ⟨A1, c1, _, A2, c2, _, A3, c3, _, A5, c5, _, by simp, rfl, r1, r2, r3, r5⟩
theorem rule_close {q : Bool} {w : World} {A1 : Option Addr} {c1 : Nat} {f1 : List Nat} {x1 : List PatternT} {A2 : Option Addr} {c2 : Nat} {f2 : List Nat} {x2 : List SumT} {A3 : Option Addr} {c3 : Nat} {f3 : List Nat} {x3 : List CallT} {A5 : Option Addr} {c5 : Nat} {f5 : List Nat} {x5 : List SumT} (z0 : ByteArray) (z4 : Bool) (z6 : ByteArray) (h1 : (Rep.slice pat).rep q w f1 [.slice A1 x1.length c1] x1) (h2 : (Rep.slice sum).rep q w f2 [.slice A2 x2.length c2] x2) (h3 : (Rep.slice call).rep q w f3 [.slice A3 x3.length c3] x3) (h5 : (Rep.slice sum).rep q w f5 [.slice A5 x5.length c5] x5) : rule.rep q w (f1 ++ f2 ++ f3 ++ f5) [.string z0, .slice A1 x1.length c1, .slice A2 x2.length c2, .slice A3 x3.length c3, .bool z4, .slice A5 x5.length c5, .string z6] (z0, x1, x2, x3, (z4, x5, z6)) := by
 have e : (f1 ++ f2 ++ f3 ++ f5 : List Nat) = [] ++ (f1 ++ (f2 ++ (f3 ++ (([] ++ (f5 ++ ([]))))))) := by simp
 rw [e]
 exact (show rule.rep q w ([] ++ (f1 ++ (f2 ++ (f3 ++ (([] ++ (f5 ++ ([])))))))) ([.string z0] ++ ([.slice A1 x1.length c1] ++ ([.slice A2 x2.length c2] ++ ([.slice A3 x3.length c3] ++ (([.bool z4] ++ ([.slice A5 x5.length c5] ++ ([.string z6])))))))) _ from ⟨_, _, _, _, rfl, rfl, ⟨rfl, rfl⟩, ⟨_, _, _, _, rfl, rfl, h1, ⟨_, _, _, _, rfl, rfl, h2, ⟨_, _, _, _, rfl, rfl, h3, ⟨_, _, _, _, rfl, rfl, ⟨rfl, rfl⟩, ⟨_, _, _, _, rfl, rfl, h5, ⟨rfl, rfl⟩⟩⟩⟩⟩⟩⟩)
theorem rules_at {q : Bool} {w : World} {fp : List Nat} {A : Option Addr} {n c : Nat} {xs : List RuleT} (h : (Rep.slice rule).rep q w fp [.slice A n c] xs) {k : Nat} (hk : k < xs.length) :
  ∃ b o A1 c1 f1 A2 c2 f2 A3 c3 f3 A5 c5 f5, A = some ⟨b, o, none⟩ ∧ b < w.heap.size ∧ w.cell? ⟨b, o + k * 7, none⟩ = some (.string xs[k].1) ∧ w.cell? ⟨b, o + k * 7 + 1, none⟩ = some (.slice A1 xs[k].2.1.length c1) ∧ w.cell? ⟨b, o + k * 7 + 2, none⟩ = some (.slice A2 xs[k].2.2.1.length c2) ∧ w.cell? ⟨b, o + k * 7 + 3, none⟩ = some (.slice A3 xs[k].2.2.2.1.length c3) ∧ w.cell? ⟨b, o + k * 7 + 4, none⟩ = some (.bool xs[k].2.2.2.2.1) ∧ w.cell? ⟨b, o + k * 7 + 5, none⟩ = some (.slice A5 xs[k].2.2.2.2.2.1.length c5) ∧ w.cell? ⟨b, o + k * 7 + 6, none⟩ = some (.string xs[k].2.2.2.2.2.2) ∧ (Rep.slice pat).rep q w f1 [.slice A1 xs[k].2.1.length c1] xs[k].2.1 ∧ (Rep.slice sum).rep q w f2 [.slice A2 xs[k].2.2.1.length c2] xs[k].2.2.1 ∧ (Rep.slice call).rep q w f3 [.slice A3 xs[k].2.2.2.1.length c3] xs[k].2.2.2.1 ∧ (Rep.slice sum).rep q w f5 [.slice A5 xs[k].2.2.2.2.2.1.length c5] xs[k].2.2.2.2.2.1 := by
 obtain ⟨b, o, f, cs, rfl, hb, hr, hc, _⟩ := slice_at h hk
 obtain ⟨A1, c1, f1, A2, c2, f2, A3, c3, f3, A5, c5, f5, _, rfl, r1, r2, r3, r5⟩ := rule_open hr
 have hn : rule.n = 7 := rfl
 rw [hn] at hc
 exact ⟨b, o, A1, c1, f1, A2, c2, f2, A3, c3, f3, A5, c5, f5, rfl, hb, hc 0 (by omega), hc 1 (by omega), hc 2 (by omega), hc 3 (by omega), hc 4 (by omega), hc 5 (by omega), hc 6 (by omega), r1, r2, r3, r5⟩
theorem ArgS.rule_at {w : World} {A : Option Addr} {n c : Nat} {xs : List RuleT} (h : ArgS rule w A n c xs) {k : Nat} (hk : k < xs.length) :
  ∃ b o A1 c1 A2 c2 A3 c3 A5 c5, A = some ⟨b, o, none⟩ ∧ b < w.heap.size ∧ w.cell? ⟨b, o + k * 7, none⟩ = some (.string xs[k].1) ∧ w.cell? ⟨b, o + k * 7 + 1, none⟩ = some (.slice A1 xs[k].2.1.length c1) ∧ w.cell? ⟨b, o + k * 7 + 2, none⟩ = some (.slice A2 xs[k].2.2.1.length c2) ∧ w.cell? ⟨b, o + k * 7 + 3, none⟩ = some (.slice A3 xs[k].2.2.2.1.length c3) ∧ w.cell? ⟨b, o + k * 7 + 4, none⟩ = some (.bool xs[k].2.2.2.2.1) ∧ w.cell? ⟨b, o + k * 7 + 5, none⟩ = some (.slice A5 xs[k].2.2.2.2.2.1.length c5) ∧ w.cell? ⟨b, o + k * 7 + 6, none⟩ = some (.string xs[k].2.2.2.2.2.2) ∧ ArgS pat w A1 xs[k].2.1.length c1 xs[k].2.1 ∧ ArgS sum w A2 xs[k].2.2.1.length c2 xs[k].2.2.1 ∧ ArgS call w A3 xs[k].2.2.2.1.length c3 xs[k].2.2.2.1 ∧ ArgS sum w A5 xs[k].2.2.2.2.2.1.length c5 xs[k].2.2.2.2.2.1 := by
 obtain ⟨q, fp, h⟩ := h
 obtain ⟨b, o, A1, c1, f1, A2, c2, f2, A3, c3, f3, A5, c5, f5, rfl, hb, h0, h1, h2, h3, h4, h5, h6, r1, r2, r3, r5⟩ := rules_at h hk
 exact ⟨b, o, A1, c1, A2, c2, A3, c3, A5, c5, rfl, hb, h0, h1, h2, h3, h4, h5, h6, ⟨q, f1, r1⟩, ⟨q, f2, r2⟩, ⟨q, f3, r3⟩, q, f5, r5⟩
def szRuleU (x : RuleT) : Nat := x.1.size + (x.2.1.length + szs szPatternU x.2.1) + (x.2.2.1.length + szs szSum x.2.2.1) + (x.2.2.2.1.length + szs szCallU x.2.2.2.1) + szArgU x.2.2.2.2
def WfRuleU (x : RuleT) : Prop := x.1.size ≤ 9223372036854775807 ∧ x.2.1.length ≤ 9223372036854775807 ∧ (∀ e ∈ x.2.1, WfPatternU e) ∧ x.2.2.1.length ≤ 9223372036854775807 ∧ (∀ e ∈ x.2.2.1, WfSum e) ∧ x.2.2.2.1.length ≤ 9223372036854775807 ∧ (∀ e ∈ x.2.2.2.1, WfCallU e) ∧ WfArgU x.2.2.2.2
def mkRuleU (k : Nat) (x : RuleT) : RuleT := (StrK.mt (k), mks mkPatternU nPatternU (k + 1) x.2.1, mks mkSum nSum (k + 1 + szs nPatternU x.2.1) x.2.2.1, mks mkCallU nCallU (k + 1 + szs nPatternU x.2.1 + szs nSum x.2.2.1) x.2.2.2.1, (mb (k + 1 + szs nPatternU x.2.1 + szs nSum x.2.2.1 + szs nCallU x.2.2.2.1), mks mkSum nSum (k + 1 + szs nPatternU x.2.1 + szs nSum x.2.2.1 + szs nCallU x.2.2.2.1 + 1) x.2.2.2.2.2.1, StrK.mt (k + 1 + szs nPatternU x.2.1 + szs nSum x.2.2.1 + szs nCallU x.2.2.2.1 + 1 + szs nSum x.2.2.2.2.2.1)))
def nRuleU (x : RuleT) : Nat := 3 + szs nPatternU x.2.1 + szs nSum x.2.2.1 + szs nCallU x.2.2.2.1 + szs nSum x.2.2.2.2.2.1
theorem nRuleU_le (x : RuleT) : nRuleU x ≤ 8 * (1 + szRuleU x) := by
 have h1 := szs_bound nPatternU_le x.2.1
 have h2 := szs_bound nSum_le x.2.2.1
 have h3 := szs_bound nCallU_le x.2.2.2.1
 have h5 := szs_bound nSum_le x.2.2.2.2.2.1
 unfold nRuleU szRuleU szArgU
 omega
theorem infoRule : (Tryz.prog.info? 48).map (fun i => (i.zero, i.size, i.bytes)) = some (some (.agg #[.string ByteArray.empty, .slice none 0 0, .slice none 0 0, .slice none 0 0, .bool false, .slice none 0 0, .string ByteArray.empty]), 7, 136) := by kernel_rfl
def zeroRule : El RuleT := ([], [.string ByteArray.empty, .slice none 0 0, .slice none 0 0, .slice none 0 0, .bool false, .slice none 0 0, .string ByteArray.empty], (ByteArray.empty, [], [], [], (false, [], ByteArray.empty)))
set_option maxHeartbeats 4000000 in
set_option maxRecDepth 100000 in
theorem copyRuleU (q1 : Bool) (f1 : List Nat) (q2 : Bool) (f2 : List Nat) (q3 : Bool) (f3 : List Nat) (q5 : Bool) (f5 : List Nat) (z0 : ByteArray) (A1 : Option Addr) (c1 : Nat) (x1 : List PatternT) (A2 : Option Addr) (c2 : Nat) (x2 : List SumT) (A3 : Option Addr) (c3 : Nat) (x3 : List CallT) (z4 : Bool) (A5 : Option Addr) (c5 : Nat) (x5 : List SumT) (z6 : ByteArray) (w : World) (h1 : (Rep.slice pat).rep q1 w f1 [.slice A1 x1.length c1] x1) (h2 : (Rep.slice sum).rep q2 w f2 [.slice A2 x2.length c2] x2) (h3 : (Rep.slice call).rep q3 w f3 [.slice A3 x3.length c3] x3) (h5 : (Rep.slice sum).rep q5 w f5 [.slice A5 x5.length c5] x5) (hl : szRuleU (z0, x1, x2, x3, (z4, x5, z6)) ≤ 100000000) :
  Calls Tryz.prog 108 #[.agg #[.string z0, .slice A1 x1.length c1, .slice A2 x2.length c2, .slice A3 x3.length c3, .bool z4, .slice A5 x5.length c5, .string z6]] w fun e w' => ∃ B1 B2 B3 B5, e = .returned (.agg #[.string z0, .slice B1 x1.length x1.length, .slice B2 x2.length x2.length, .slice B3 x3.length x3.length, .bool z4, .slice B5 x5.length x5.length, .string z6]) ∧ OwnR rule w.heap.size w'.heap.size w' [.string z0, .slice B1 x1.length x1.length, .slice B2 x2.length x2.length, .slice B3 x3.length x3.length, .bool z4, .slice B5 x5.length x5.length, .string z6] (z0, x1, x2, x3, (z4, x5, z6)) ∧ Below w.heap.size w w' := by
 simp only [szRuleU] at hl
 have CP0 := Lib.hid (fun W (h : Below w.heap.size w W) => copyPatternSU q1 f1 A1 c1 x1 W (Rep.below h1 h) (by omega))
 have CP1 := Lib.hid (fun W (h : Below w.heap.size w W) => copySumSU q2 f2 A2 c2 x2 W (Rep.below h2 h) (by omega))
 have CP2 := Lib.hid (fun W (h : Below w.heap.size w W) => copyCallSU q3 f3 A3 c3 x3 W (Rep.below h3 h) (by omega))
 have CP3 := Lib.hid (fun W (h : Below w.heap.size w W) => copyArgU q5 f5 z4 A5 c5 x5 z6 W (Rep.below h5 h) (by simp only [szArgU] at hl ⊢; omega))
 clear hl h1 h2 h3 h5
 go_enter Tryz.func108, Tryz.ntmps108
 go_wp2_with fail
 refine (Calls.mono (CP0.out _ (by repeat (first | with_reducible exact Below.refl _ _ | with_reducible exact Below.refl _ _ | refine Below.setCell ?_ (by first | omega | (simp; done) | (simp; omega)) _ | refine Below.alloc ?_ (by first | omega | (simp; done) | (simp; omega)) _)))) ?_
 rintro e w0 ⟨D1, rfl, o0, b0⟩
 have B0 : Below w.heap.size w w0 := below_step (by repeat (first | with_reducible exact Below.refl _ _ | with_reducible exact Below.refl _ _ | refine Below.setCell ?_ (by first | omega | (simp; done) | (simp; omega)) _ | refine Below.alloc ?_ (by first | omega | (simp; done) | (simp; omega)) _)) b0
 have hz0 := b0.size
 simp only [World.size_alloc] at hz0 o0
 have VA0 := (((Lvar.new w #[Value.string z0, Value.slice A1 x1.length c1, Value.slice A2 x2.length c2, Value.slice A3 x3.length c3, Value.bool z4, Value.slice A5 x5.length c5, Value.string z6] 145).alloc (Obj.cells #[Value.string ByteArray.empty, Value.slice none 0 0, Value.slice none 0 0, Value.slice none 0 0, Value.bool false, Value.slice none 0 0, Value.string ByteArray.empty] 48)).alloc (Obj.cells #[Value.string z0, Value.slice none 0 0, Value.slice none 0 0, Value.slice none 0 0, Value.bool false, Value.slice none 0 0, Value.string ByteArray.empty] 48)).below b0
 have VB0 := ((Lvar.new (w.alloc (Obj.cells #[Value.string z0, Value.slice A1 x1.length c1, Value.slice A2 x2.length c2, Value.slice A3 x3.length c3, Value.bool z4, Value.slice A5 x5.length c5, Value.string z6] 145)) #[Value.string ByteArray.empty, Value.slice none 0 0, Value.slice none 0 0, Value.slice none 0 0, Value.bool false, Value.slice none 0 0, Value.string ByteArray.empty] 48).alloc (Obj.cells #[Value.string z0, Value.slice none 0 0, Value.slice none 0 0, Value.slice none 0 0, Value.bool false, Value.slice none 0 0, Value.string ByteArray.empty] 48)).below b0
 have VC0 := (Lvar.new ((w.alloc (Obj.cells #[Value.string z0, Value.slice A1 x1.length c1, Value.slice A2 x2.length c2, Value.slice A3 x3.length c3, Value.bool z4, Value.slice A5 x5.length c5, Value.string z6] 145)).alloc (Obj.cells #[Value.string ByteArray.empty, Value.slice none 0 0, Value.slice none 0 0, Value.slice none 0 0, Value.bool false, Value.slice none 0 0, Value.string ByteArray.empty] 48)) #[Value.string z0, Value.slice none 0 0, Value.slice none 0 0, Value.slice none 0 0, Value.bool false, Value.slice none 0 0, Value.string ByteArray.empty] 48).below b0
 simp only [World.size_alloc] at VB0 VC0
 have cA0_0 := VA0.cell 0 _ rfl
 have cA0_1 := VA0.cell 1 _ rfl
 have cA0_2 := VA0.cell 2 _ rfl
 have cA0_3 := VA0.cell 3 _ rfl
 have cA0_4 := VA0.cell 4 _ rfl
 have cA0_5 := VA0.cell 5 _ rfl
 have cA0_6 := VA0.cell 6 _ rfl
 have cB0_0 := VB0.cell 0 _ rfl
 have cB0_1 := VB0.cell 1 _ rfl
 have cB0_2 := VB0.cell 2 _ rfl
 have cB0_3 := VB0.cell 3 _ rfl
 have cB0_4 := VB0.cell 4 _ rfl
 have cB0_5 := VB0.cell 5 _ rfl
 have cB0_6 := VB0.cell 6 _ rfl
 have yB0_0 := VB0.frozen 0
 have yB0_1 := VB0.frozen 1
 have yB0_2 := VB0.frozen 2
 have yB0_3 := VB0.frozen 3
 have yB0_4 := VB0.frozen 4
 have yB0_5 := VB0.frozen 5
 have yB0_6 := VB0.frozen 6
 have cC0_0 := VC0.cell 0 _ rfl
 have cC0_1 := VC0.cell 1 _ rfl
 have cC0_2 := VC0.cell 2 _ rfl
 have cC0_3 := VC0.cell 3 _ rfl
 have cC0_4 := VC0.cell 4 _ rfl
 have cC0_5 := VC0.cell 5 _ rfl
 have cC0_6 := VC0.cell 6 _ rfl
 have yC0_0 := VC0.frozen 0
 have yC0_1 := VC0.frozen 1
 have yC0_2 := VC0.frozen 2
 have yC0_3 := VC0.frozen 3
 have yC0_4 := VC0.frozen 4
 have yC0_5 := VC0.frozen 5
 have yC0_6 := VC0.frozen 6
 have VA0 := Lib.hid VA0
 have VB0 := Lib.hid VB0
 have VC0 := Lib.hid VC0
 clear b0
 go_wp2_with fail
 refine (Calls.mono (CP1.out _ (by repeat (first | with_reducible exact B0 | with_reducible exact Below.refl _ _ | refine Below.setCell ?_ (by first | omega | (simp; done) | (simp; omega)) _ | refine Below.alloc ?_ (by first | omega | (simp; done) | (simp; omega)) _)))) ?_
 rintro e w1 ⟨D2, rfl, o1, b1⟩
 have B1 : Below w.heap.size w w1 := below_step (by repeat (first | with_reducible exact B0 | with_reducible exact Below.refl _ _ | refine Below.setCell ?_ (by first | omega | (simp; done) | (simp; omega)) _ | refine Below.alloc ?_ (by first | omega | (simp; done) | (simp; omega)) _)) b1
 have hz1 := b1.size
 simp only [World.size_setCell] at hz1 o1
 have VA1 := (VA0.out.other (p := ⟨w.heap.size + 1 + 1, 1, none⟩) (by first | omega | (simp; done) | (simp; omega)) (Value.slice D1 x1.length x1.length)).below b1
 have VB1 := (VB0.out.other (p := ⟨w.heap.size + 1 + 1, 1, none⟩) (by first | omega | (simp; done) | (simp; omega)) (Value.slice D1 x1.length x1.length)).below b1
 have VC1 : Lvar w1 (w.heap.size + 1 + 1) #[Value.string z0, Value.slice D1 x1.length x1.length, Value.slice none 0 0, Value.slice none 0 0, Value.bool false, Value.slice none 0 0, Value.string ByteArray.empty] := (VC0.out.set 1 (Value.slice D1 x1.length x1.length)).below b1
 have o0 := OwnR.below (OwnR.keep o0 (show Mod w.heap.size (w.heap.size + 3) w0 _ from (by repeat (first | with_reducible exact Mod.refl _ _ _ | refine Mod.trans ?_ (Mod.set _ (by first | omega | (simp; done) | (simp; omega)) (by first | omega | (simp; done) | (simp; omega)) _)))) (Or.inr (by omega))) b1
 clear cA0_0 cA0_1 cA0_2 cA0_3 cA0_4 cA0_5 cA0_6 cB0_0 cB0_1 cB0_2 cB0_3 cB0_4 cB0_5 cB0_6 yB0_0 yB0_1 yB0_2 yB0_3 yB0_4 yB0_5 yB0_6 cC0_0 cC0_1 cC0_2 cC0_3 cC0_4 cC0_5 cC0_6 yC0_0 yC0_1 yC0_2 yC0_3 yC0_4 yC0_5 yC0_6
 have cA1_0 := VA1.cell 0 _ rfl
 have cA1_1 := VA1.cell 1 _ rfl
 have cA1_2 := VA1.cell 2 _ rfl
 have cA1_3 := VA1.cell 3 _ rfl
 have cA1_4 := VA1.cell 4 _ rfl
 have cA1_5 := VA1.cell 5 _ rfl
 have cA1_6 := VA1.cell 6 _ rfl
 have cB1_0 := VB1.cell 0 _ rfl
 have cB1_1 := VB1.cell 1 _ rfl
 have cB1_2 := VB1.cell 2 _ rfl
 have cB1_3 := VB1.cell 3 _ rfl
 have cB1_4 := VB1.cell 4 _ rfl
 have cB1_5 := VB1.cell 5 _ rfl
 have cB1_6 := VB1.cell 6 _ rfl
 have yB1_0 := VB1.frozen 0
 have yB1_1 := VB1.frozen 1
 have yB1_2 := VB1.frozen 2
 have yB1_3 := VB1.frozen 3
 have yB1_4 := VB1.frozen 4
 have yB1_5 := VB1.frozen 5
 have yB1_6 := VB1.frozen 6
 have cC1_0 := VC1.cell 0 _ rfl
 have cC1_1 := VC1.cell 1 _ rfl
 have cC1_2 := VC1.cell 2 _ rfl
 have cC1_3 := VC1.cell 3 _ rfl
 have cC1_4 := VC1.cell 4 _ rfl
 have cC1_5 := VC1.cell 5 _ rfl
 have cC1_6 := VC1.cell 6 _ rfl
 have yC1_0 := VC1.frozen 0
 have yC1_1 := VC1.frozen 1
 have yC1_2 := VC1.frozen 2
 have yC1_3 := VC1.frozen 3
 have yC1_4 := VC1.frozen 4
 have yC1_5 := VC1.frozen 5
 have yC1_6 := VC1.frozen 6
 have VA1 := Lib.hid VA1
 have VB1 := Lib.hid VB1
 have VC1 := Lib.hid VC1
 clear VA0 VB0 VC0
 clear b1
 go_wp2_with fail
 refine (Calls.mono (CP2.out _ (by repeat (first | with_reducible exact B1 | with_reducible exact Below.refl _ _ | refine Below.setCell ?_ (by first | omega | (simp; done) | (simp; omega)) _ | refine Below.alloc ?_ (by first | omega | (simp; done) | (simp; omega)) _)))) ?_
 rintro e w2 ⟨D3, rfl, o2, b2⟩
 have B2 : Below w.heap.size w w2 := below_step (by repeat (first | with_reducible exact B1 | with_reducible exact Below.refl _ _ | refine Below.setCell ?_ (by first | omega | (simp; done) | (simp; omega)) _ | refine Below.alloc ?_ (by first | omega | (simp; done) | (simp; omega)) _)) b2
 have hz2 := b2.size
 simp only [World.size_setCell] at hz2 o2
 have VA2 := (VA1.out.other (p := ⟨w.heap.size + 1 + 1, 2, none⟩) (by first | omega | (simp; done) | (simp; omega)) (Value.slice D2 x2.length x2.length)).below b2
 have VB2 := (VB1.out.other (p := ⟨w.heap.size + 1 + 1, 2, none⟩) (by first | omega | (simp; done) | (simp; omega)) (Value.slice D2 x2.length x2.length)).below b2
 have VC2 : Lvar w2 (w.heap.size + 1 + 1) #[Value.string z0, Value.slice D1 x1.length x1.length, Value.slice D2 x2.length x2.length, Value.slice none 0 0, Value.bool false, Value.slice none 0 0, Value.string ByteArray.empty] := (VC1.out.set 2 (Value.slice D2 x2.length x2.length)).below b2
 have o0 := OwnR.below (OwnR.keep o0 (show Mod w.heap.size (w.heap.size + 3) w1 _ from (by repeat (first | with_reducible exact Mod.refl _ _ _ | refine Mod.trans ?_ (Mod.set _ (by first | omega | (simp; done) | (simp; omega)) (by first | omega | (simp; done) | (simp; omega)) _)))) (Or.inr (by omega))) b2
 have o1 := OwnR.below (OwnR.keep o1 (show Mod w.heap.size (w.heap.size + 3) w1 _ from (by repeat (first | with_reducible exact Mod.refl _ _ _ | refine Mod.trans ?_ (Mod.set _ (by first | omega | (simp; done) | (simp; omega)) (by first | omega | (simp; done) | (simp; omega)) _)))) (Or.inr (by omega))) b2
 clear cA1_0 cA1_1 cA1_2 cA1_3 cA1_4 cA1_5 cA1_6 cB1_0 cB1_1 cB1_2 cB1_3 cB1_4 cB1_5 cB1_6 yB1_0 yB1_1 yB1_2 yB1_3 yB1_4 yB1_5 yB1_6 cC1_0 cC1_1 cC1_2 cC1_3 cC1_4 cC1_5 cC1_6 yC1_0 yC1_1 yC1_2 yC1_3 yC1_4 yC1_5 yC1_6
 have cA2_0 := VA2.cell 0 _ rfl
 have cA2_1 := VA2.cell 1 _ rfl
 have cA2_2 := VA2.cell 2 _ rfl
 have cA2_3 := VA2.cell 3 _ rfl
 have cA2_4 := VA2.cell 4 _ rfl
 have cA2_5 := VA2.cell 5 _ rfl
 have cA2_6 := VA2.cell 6 _ rfl
 have cB2_0 := VB2.cell 0 _ rfl
 have cB2_1 := VB2.cell 1 _ rfl
 have cB2_2 := VB2.cell 2 _ rfl
 have cB2_3 := VB2.cell 3 _ rfl
 have cB2_4 := VB2.cell 4 _ rfl
 have cB2_5 := VB2.cell 5 _ rfl
 have cB2_6 := VB2.cell 6 _ rfl
 have yB2_0 := VB2.frozen 0
 have yB2_1 := VB2.frozen 1
 have yB2_2 := VB2.frozen 2
 have yB2_3 := VB2.frozen 3
 have yB2_4 := VB2.frozen 4
 have yB2_5 := VB2.frozen 5
 have yB2_6 := VB2.frozen 6
 have cC2_0 := VC2.cell 0 _ rfl
 have cC2_1 := VC2.cell 1 _ rfl
 have cC2_2 := VC2.cell 2 _ rfl
 have cC2_3 := VC2.cell 3 _ rfl
 have cC2_4 := VC2.cell 4 _ rfl
 have cC2_5 := VC2.cell 5 _ rfl
 have cC2_6 := VC2.cell 6 _ rfl
 have yC2_0 := VC2.frozen 0
 have yC2_1 := VC2.frozen 1
 have yC2_2 := VC2.frozen 2
 have yC2_3 := VC2.frozen 3
 have yC2_4 := VC2.frozen 4
 have yC2_5 := VC2.frozen 5
 have yC2_6 := VC2.frozen 6
 have VA2 := Lib.hid VA2
 have VB2 := Lib.hid VB2
 have VC2 := Lib.hid VC2
 clear VA1 VB1 VC1
 clear b2
 go_wp2_with fail
 refine (Calls.mono (CP3.out _ (by repeat (first | with_reducible exact B2 | with_reducible exact Below.refl _ _ | refine Below.setCell ?_ (by first | omega | (simp; done) | (simp; omega)) _ | refine Below.alloc ?_ (by first | omega | (simp; done) | (simp; omega)) _)))) ?_
 rintro e w3 ⟨D5, rfl, o3, b3⟩
 have B3 : Below w.heap.size w w3 := below_step (by repeat (first | with_reducible exact B2 | with_reducible exact Below.refl _ _ | refine Below.setCell ?_ (by first | omega | (simp; done) | (simp; omega)) _ | refine Below.alloc ?_ (by first | omega | (simp; done) | (simp; omega)) _)) b3
 have hz3 := b3.size
 simp only [World.size_setCell] at hz3 o3
 have VA3 := (VA2.out.other (p := ⟨w.heap.size + 1 + 1, 3, none⟩) (by first | omega | (simp; done) | (simp; omega)) (Value.slice D3 x3.length x3.length)).below b3
 have VB3 := (VB2.out.other (p := ⟨w.heap.size + 1 + 1, 3, none⟩) (by first | omega | (simp; done) | (simp; omega)) (Value.slice D3 x3.length x3.length)).below b3
 have VC3 : Lvar w3 (w.heap.size + 1 + 1) #[Value.string z0, Value.slice D1 x1.length x1.length, Value.slice D2 x2.length x2.length, Value.slice D3 x3.length x3.length, Value.bool false, Value.slice none 0 0, Value.string ByteArray.empty] := (VC2.out.set 3 (Value.slice D3 x3.length x3.length)).below b3
 have o0 := OwnR.below (OwnR.keep o0 (show Mod w.heap.size (w.heap.size + 3) w2 _ from (by repeat (first | with_reducible exact Mod.refl _ _ _ | refine Mod.trans ?_ (Mod.set _ (by first | omega | (simp; done) | (simp; omega)) (by first | omega | (simp; done) | (simp; omega)) _)))) (Or.inr (by omega))) b3
 have o1 := OwnR.below (OwnR.keep o1 (show Mod w.heap.size (w.heap.size + 3) w2 _ from (by repeat (first | with_reducible exact Mod.refl _ _ _ | refine Mod.trans ?_ (Mod.set _ (by first | omega | (simp; done) | (simp; omega)) (by first | omega | (simp; done) | (simp; omega)) _)))) (Or.inr (by omega))) b3
 have o2 := OwnR.below (OwnR.keep o2 (show Mod w.heap.size (w.heap.size + 3) w2 _ from (by repeat (first | with_reducible exact Mod.refl _ _ _ | refine Mod.trans ?_ (Mod.set _ (by first | omega | (simp; done) | (simp; omega)) (by first | omega | (simp; done) | (simp; omega)) _)))) (Or.inr (by omega))) b3
 clear cA2_0 cA2_1 cA2_2 cA2_3 cA2_4 cA2_5 cA2_6 cB2_0 cB2_1 cB2_2 cB2_3 cB2_4 cB2_5 cB2_6 yB2_0 yB2_1 yB2_2 yB2_3 yB2_4 yB2_5 yB2_6 cC2_0 cC2_1 cC2_2 cC2_3 cC2_4 cC2_5 cC2_6 yC2_0 yC2_1 yC2_2 yC2_3 yC2_4 yC2_5 yC2_6
 have cA3_0 := VA3.cell 0 _ rfl
 have cA3_1 := VA3.cell 1 _ rfl
 have cA3_2 := VA3.cell 2 _ rfl
 have cA3_3 := VA3.cell 3 _ rfl
 have cA3_4 := VA3.cell 4 _ rfl
 have cA3_5 := VA3.cell 5 _ rfl
 have cA3_6 := VA3.cell 6 _ rfl
 have cB3_0 := VB3.cell 0 _ rfl
 have cB3_1 := VB3.cell 1 _ rfl
 have cB3_2 := VB3.cell 2 _ rfl
 have cB3_3 := VB3.cell 3 _ rfl
 have cB3_4 := VB3.cell 4 _ rfl
 have cB3_5 := VB3.cell 5 _ rfl
 have cB3_6 := VB3.cell 6 _ rfl
 have yB3_0 := VB3.frozen 0
 have yB3_1 := VB3.frozen 1
 have yB3_2 := VB3.frozen 2
 have yB3_3 := VB3.frozen 3
 have yB3_4 := VB3.frozen 4
 have yB3_5 := VB3.frozen 5
 have yB3_6 := VB3.frozen 6
 have cC3_0 := VC3.cell 0 _ rfl
 have cC3_1 := VC3.cell 1 _ rfl
 have cC3_2 := VC3.cell 2 _ rfl
 have cC3_3 := VC3.cell 3 _ rfl
 have cC3_4 := VC3.cell 4 _ rfl
 have cC3_5 := VC3.cell 5 _ rfl
 have cC3_6 := VC3.cell 6 _ rfl
 have yC3_0 := VC3.frozen 0
 have yC3_1 := VC3.frozen 1
 have yC3_2 := VC3.frozen 2
 have yC3_3 := VC3.frozen 3
 have yC3_4 := VC3.frozen 4
 have yC3_5 := VC3.frozen 5
 have yC3_6 := VC3.frozen 6
 have VA3 := Lib.hid VA3
 have VB3 := Lib.hid VB3
 have VC3 := Lib.hid VC3
 clear VA2 VB2 VC2
 clear b3
 go_wp2_with fail
 obtain ⟨T9, hT9⟩ := (show Lvar _ (w.heap.size + 1) #[Value.string z0, Value.slice D1 x1.length x1.length, Value.slice D2 x2.length x2.length, Value.slice D3 x3.length x3.length, Value.bool z4, Value.slice D5 x5.length x5.length, Value.string z6] from ((((((((((VB3.out.other (p := ⟨w.heap.size + 1 + 1, 4, none⟩) (by first | omega | (simp; done) | (simp; omega)) (Value.bool z4)).other (p := ⟨w.heap.size + 1 + 1, 5, none⟩) (by first | omega | (simp; done) | (simp; omega)) (Value.slice D5 x5.length x5.length)).other (p := ⟨w.heap.size + 1 + 1, 6, none⟩) (by first | omega | (simp; done) | (simp; omega)) (Value.string z6)).set 0 (Value.string z0)).set 1 (Value.slice D1 x1.length x1.length)).set 2 (Value.slice D2 x2.length x2.length)).set 3 (Value.slice D3 x3.length x3.length)).set 4 (Value.bool z4)).set 5 (Value.slice D5 x5.length x5.length)).set 6 (Value.string z6)))
 obtain ⟨i9, hi9, _, hs9, _⟩ := info_parts infoRule
 refine bodyPost_ret (results_cell_row rfl _ _ (w.heap.size + 1) T9 #[.string z0, .slice D1 x1.length x1.length, .slice D2 x2.length x2.length, .slice D3 x3.length x3.length, .bool z4, .slice D5 x5.length x5.length, .string z6] _ _ rfl hT9 Tryz.underlying48 rfl (by rw [hi9, Option.map_some, hs9]; rfl)) rfl ?_
 have key : ∀ {u : World}, Mod w.heap.size (w.heap.size + 3) w3 u → OwnR rule w.heap.size u.heap.size u [.string z0, .slice D1 x1.length x1.length, .slice D2 x2.length x2.length, .slice D3 x3.length x3.length, .bool z4, .slice D5 x5.length x5.length, .string z6] (z0, x1, x2, x3, (z4, x5, z6)) ∧ Below w.heap.size w u := fun {u} hm => by
  have hs := hm.size
  have o0 := OwnR.keep o0 hm (Or.inr (by omega))
  have o1 := OwnR.keep o1 hm (Or.inr (by omega))
  have o2 := OwnR.keep o2 hm (Or.inr (by omega))
  have o3 := OwnR.keep o3 hm (Or.inr (by omega))
  exact ⟨(OwnR.prod (mid := w.heap.size) (OwnR.str (by omega) z0) (OwnR.prod (mid := w0.heap.size) (o0.wider (lo' := w.heap.size) (hi' := w0.heap.size) (by omega) (by omega) (by omega)) (OwnR.prod (mid := w1.heap.size) (o1.wider (lo' := w0.heap.size) (hi' := w1.heap.size) (by omega) (by omega) (by omega)) (OwnR.prod (mid := w2.heap.size) (o2.wider (lo' := w1.heap.size) (hi' := w2.heap.size) (by omega) (by omega) (by omega)) (o3.wider (by omega) (by omega) (Nat.le_refl _)) (by omega) (by omega)) (by omega) (by omega)) (by omega) (by omega)) (by omega) (by omega)), below_mod B3 hm (Nat.le_refl _) B3.size⟩
 refine ⟨D1, D2, D3, D5, rfl, key ?_⟩
 repeat (first | with_reducible exact Mod.refl _ _ _ | refine Mod.trans ?_ (Mod.set _ (by first | omega | (simp; done) | (simp; omega)) (by first | omega | (simp; done) | (simp; omega)) _))
set_option maxHeartbeats 4000000 in
set_option maxRecDepth 100000 in
theorem sizeRuleU (q1 : Bool) (f1 : List Nat) (q2 : Bool) (f2 : List Nat) (q3 : Bool) (f3 : List Nat) (q5 : Bool) (f5 : List Nat) (z0 : ByteArray) (A1 : Option Addr) (c1 : Nat) (x1 : List PatternT) (A2 : Option Addr) (c2 : Nat) (x2 : List SumT) (A3 : Option Addr) (c3 : Nat) (x3 : List CallT) (z4 : Bool) (A5 : Option Addr) (c5 : Nat) (x5 : List SumT) (z6 : ByteArray) (L : Nat) (w : World) (h1 : (Rep.slice pat).rep q1 w f1 [.slice A1 x1.length c1] x1) (h2 : (Rep.slice sum).rep q2 w f2 [.slice A2 x2.length c2] x2) (h3 : (Rep.slice call).rep q3 w f3 [.slice A3 x3.length c3] x3) (h5 : (Rep.slice sum).rep q5 w f5 [.slice A5 x5.length c5] x5) (hL : L ≤ 1000000000) (hs : WfRuleU (z0, x1, x2, x3, (z4, x5, z6))) :
  Calls Tryz.prog 106 #[.agg #[.string z0, .slice A1 x1.length c1, .slice A2 x2.length c2, .slice A3 x3.length c3, .bool z4, .slice A5 x5.length c5, .string z6], .int .i64 L] w fun e w' => e = .returned (.int .i64 (IntK.leftOf L (szRuleU (z0, x1, x2, x3, (z4, x5, z6))))) ∧ Below w.heap.size w w' := by
 simp only [WfRuleU] at hs
 obtain ⟨hs0, hs1a, hs1b, hs2a, hs2b, hs3a, hs3b, hs4⟩ := hs
 have B0 := Lib.hid ((Below.refl w.heap.size w).alloc (Nat.le_refl _) (Obj.cells #[Value.string z0, Value.slice A1 x1.length c1, Value.slice A2 x2.length c2, Value.slice A3 x3.length c3, Value.bool z4, Value.slice A5 x5.length c5, Value.string z6] 145))
 have V0 := Lib.hid (Lvar.new w #[Value.string z0, Value.slice A1 x1.length c1, Value.slice A2 x2.length c2, Value.slice A3 x3.length c3, Value.bool z4, Value.slice A5 x5.length c5, Value.string z6] 145)
 by_cases g0 : z0.size ≤ L
 ·obtain ⟨m0, hm0⟩ : ∃ m : Nat, m = L - z0.size := ⟨_, rfl⟩
  have hq0 : (L : Int) - (z0.size : Int) = (m0 : Int) := by omega
  have hd0 : decide ((m0 : Int) < 0) = false := decide_eq_false (by omega)
  have HM0 := Lib.hid (show m0 + z0.size = L by omega)
  have hL0 : m0 ≤ 1000000000 := by omega
  clear g0 hm0
  have SZ1 := fun W (h : Below w.heap.size w W) => sizePatternSU q1 f1 A1 c1 m0 x1 W (Rep.below h1 h) (by omega) hs1a hs1b
  unfold IntK.leftOf at SZ1
  by_cases g1 : (x1.length + szs szPatternU x1) ≤ m0
  ·obtain ⟨m1, hm1⟩ : ∃ m : Nat, m = m0 - (x1.length + szs szPatternU x1) := ⟨_, rfl⟩
   simp only [if_pos g1, show ((m0 : Nat) : Int) - (((x1.length + szs szPatternU x1) : Nat) : Int) = (m1 : Int) by omega] at SZ1
   have hd1 : decide ((m1 : Int) < 0) = false := decide_eq_false (by omega)
   have HM1 := Lib.hid (show m1 + (x1.length + szs szPatternU x1) = m0 by omega)
   have SZ1 := Lib.hid SZ1
   have hL1 : m1 ≤ 1000000000 := by omega
   clear g1 hm1
   have SZ2 := fun W (h : Below w.heap.size w W) => sizeSumSU q2 f2 A2 c2 m1 x2 W (Rep.below h2 h) (by omega) hs2a hs2b
   unfold IntK.leftOf at SZ2
   by_cases g2 : (x2.length + szs szSum x2) ≤ m1
   ·obtain ⟨m2, hm2⟩ : ∃ m : Nat, m = m1 - (x2.length + szs szSum x2) := ⟨_, rfl⟩
    simp only [if_pos g2, show ((m1 : Nat) : Int) - (((x2.length + szs szSum x2) : Nat) : Int) = (m2 : Int) by omega] at SZ2
    have hd2 : decide ((m2 : Int) < 0) = false := decide_eq_false (by omega)
    have HM2 := Lib.hid (show m2 + (x2.length + szs szSum x2) = m1 by omega)
    have SZ2 := Lib.hid SZ2
    have hL2 : m2 ≤ 1000000000 := by omega
    clear g2 hm2
    have SZ3 := fun W (h : Below w.heap.size w W) => sizeCallSU q3 f3 A3 c3 m2 x3 W (Rep.below h3 h) (by omega) hs3a hs3b
    unfold IntK.leftOf at SZ3
    by_cases g3 : (x3.length + szs szCallU x3) ≤ m2
    ·obtain ⟨m3, hm3⟩ : ∃ m : Nat, m = m2 - (x3.length + szs szCallU x3) := ⟨_, rfl⟩
     simp only [if_pos g3, show ((m2 : Nat) : Int) - (((x3.length + szs szCallU x3) : Nat) : Int) = (m3 : Int) by omega] at SZ3
     have hd3 : decide ((m3 : Int) < 0) = false := decide_eq_false (by omega)
     have HM3 := Lib.hid (show m3 + (x3.length + szs szCallU x3) = m2 by omega)
     have SZ3 := Lib.hid SZ3
     have hL3 : m3 ≤ 1000000000 := by omega
     clear g3 hm3
     have SZ4 := fun W (h : Below w.heap.size w W) => sizeArgU q5 f5 z4 A5 c5 x5 z6 m3 W (Rep.below h5 h) (by omega) hs4
     unfold IntK.leftOf at SZ4
     by_cases g4 : (szArgU (z4, x5, z6)) ≤ m3
     ·obtain ⟨m4, hm4⟩ : ∃ m : Nat, m = m3 - (szArgU (z4, x5, z6)) := ⟨_, rfl⟩
      simp only [if_pos g4, show ((m3 : Nat) : Int) - (((szArgU (z4, x5, z6)) : Nat) : Int) = (m4 : Int) by omega] at SZ4
      have hd4 : decide ((m4 : Int) < 0) = false := decide_eq_false (by omega)
      have HM4 := Lib.hid (show m4 + (szArgU (z4, x5, z6)) = m3 by omega)
      have SZ4 := Lib.hid SZ4
      have hL4 : m4 ≤ 1000000000 := by omega
      clear g4 hm4
      have HR := Lib.hid (show IntK.leftOf L (szRuleU (z0, x1, x2, x3, (z4, x5, z6))) = (m4 : Int) by simp only [szRuleU]; unfold IntK.leftOf; have := HM0.out; have := HM1.out; have := HM2.out; have := HM3.out; have := HM4.out; rw [if_pos (by omega)]; omega)
      clear hs1a hs1b hs2a hs2b hs3a hs3b hs4 h1 h2 h3 h5
      go_enter Tryz.func106, Tryz.ntmps106
      go_wp2_with fail
      refine (Calls.mono (SZ1.out _ B0.out)) ?_
      rintro e w1 ⟨rfl, b1⟩
      have B1 := Lib.hid (below_step B0.out b1)
      have V1 := Lib.hid (V0.out.below b1)
      clear b1
      have v1_0 := V1.out.cell 0 _ rfl
      have v1_1 := V1.out.cell 1 _ rfl
      have v1_2 := V1.out.cell 2 _ rfl
      have v1_3 := V1.out.cell 3 _ rfl
      have v1_4 := V1.out.cell 4 _ rfl
      have v1_5 := V1.out.cell 5 _ rfl
      have v1_6 := V1.out.cell 6 _ rfl
      go_wp2_with fail
      refine (Calls.mono (SZ2.out _ B1.out)) ?_
      rintro e w2 ⟨rfl, b2⟩
      have B2 := Lib.hid (below_step B1.out b2)
      have V2 := Lib.hid (V1.out.below b2)
      clear b2
      have v2_0 := V2.out.cell 0 _ rfl
      have v2_1 := V2.out.cell 1 _ rfl
      have v2_2 := V2.out.cell 2 _ rfl
      have v2_3 := V2.out.cell 3 _ rfl
      have v2_4 := V2.out.cell 4 _ rfl
      have v2_5 := V2.out.cell 5 _ rfl
      have v2_6 := V2.out.cell 6 _ rfl
      clear v1_0 v1_1 v1_2 v1_3 v1_4 v1_5 v1_6
      go_wp2_with fail
      refine (Calls.mono (SZ3.out _ B2.out)) ?_
      rintro e w3 ⟨rfl, b3⟩
      have B3 := Lib.hid (below_step B2.out b3)
      have V3 := Lib.hid (V2.out.below b3)
      clear b3
      have v3_0 := V3.out.cell 0 _ rfl
      have v3_1 := V3.out.cell 1 _ rfl
      have v3_2 := V3.out.cell 2 _ rfl
      have v3_3 := V3.out.cell 3 _ rfl
      have v3_4 := V3.out.cell 4 _ rfl
      have v3_5 := V3.out.cell 5 _ rfl
      have v3_6 := V3.out.cell 6 _ rfl
      clear v2_0 v2_1 v2_2 v2_3 v2_4 v2_5 v2_6
      go_wp2_with fail
      refine (Calls.mono (SZ4.out _ B3.out)) ?_
      rintro e w4 ⟨rfl, b4⟩
      have B4 := Lib.hid (below_step B3.out b4)
      have V4 := Lib.hid (V3.out.below b4)
      clear b4
      have v4_0 := V4.out.cell 0 _ rfl
      have v4_1 := V4.out.cell 1 _ rfl
      have v4_2 := V4.out.cell 2 _ rfl
      have v4_3 := V4.out.cell 3 _ rfl
      have v4_4 := V4.out.cell 4 _ rfl
      have v4_5 := V4.out.cell 5 _ rfl
      have v4_6 := V4.out.cell 6 _ rfl
      clear v3_0 v3_1 v3_2 v3_3 v3_4 v3_5 v3_6
      go_wp2
      go_ret
      exact ⟨by rw [HR.out]; rfl, B4.out⟩
     ·have HM := Lib.hid g4
      simp only [if_neg g4] at SZ4
      have SZ4 := Lib.hid SZ4
      clear g4
      have HR := Lib.hid (show IntK.leftOf L (szRuleU (z0, x1, x2, x3, (z4, x5, z6))) = -1 by simp only [szRuleU]; unfold IntK.leftOf; have := HM0.out; have := HM1.out; have := HM2.out; have := HM3.out; have := HM.out; rw [if_neg (by omega)])
      clear hs1a hs1b hs2a hs2b hs3a hs3b hs4 h1 h2 h3 h5
      go_enter Tryz.func106, Tryz.ntmps106
      go_wp2_with fail
      refine (Calls.mono (SZ1.out _ B0.out)) ?_
      rintro e w1 ⟨rfl, b1⟩
      have B1 := Lib.hid (below_step B0.out b1)
      have V1 := Lib.hid (V0.out.below b1)
      clear b1
      have v1_0 := V1.out.cell 0 _ rfl
      have v1_1 := V1.out.cell 1 _ rfl
      have v1_2 := V1.out.cell 2 _ rfl
      have v1_3 := V1.out.cell 3 _ rfl
      have v1_4 := V1.out.cell 4 _ rfl
      have v1_5 := V1.out.cell 5 _ rfl
      have v1_6 := V1.out.cell 6 _ rfl
      go_wp2_with fail
      refine (Calls.mono (SZ2.out _ B1.out)) ?_
      rintro e w2 ⟨rfl, b2⟩
      have B2 := Lib.hid (below_step B1.out b2)
      have V2 := Lib.hid (V1.out.below b2)
      clear b2
      have v2_0 := V2.out.cell 0 _ rfl
      have v2_1 := V2.out.cell 1 _ rfl
      have v2_2 := V2.out.cell 2 _ rfl
      have v2_3 := V2.out.cell 3 _ rfl
      have v2_4 := V2.out.cell 4 _ rfl
      have v2_5 := V2.out.cell 5 _ rfl
      have v2_6 := V2.out.cell 6 _ rfl
      clear v1_0 v1_1 v1_2 v1_3 v1_4 v1_5 v1_6
      go_wp2_with fail
      refine (Calls.mono (SZ3.out _ B2.out)) ?_
      rintro e w3 ⟨rfl, b3⟩
      have B3 := Lib.hid (below_step B2.out b3)
      have V3 := Lib.hid (V2.out.below b3)
      clear b3
      have v3_0 := V3.out.cell 0 _ rfl
      have v3_1 := V3.out.cell 1 _ rfl
      have v3_2 := V3.out.cell 2 _ rfl
      have v3_3 := V3.out.cell 3 _ rfl
      have v3_4 := V3.out.cell 4 _ rfl
      have v3_5 := V3.out.cell 5 _ rfl
      have v3_6 := V3.out.cell 6 _ rfl
      clear v2_0 v2_1 v2_2 v2_3 v2_4 v2_5 v2_6
      go_wp2_with fail
      refine (Calls.mono (SZ4.out _ B3.out)) ?_
      rintro e w4 ⟨rfl, b4⟩
      have B4 := Lib.hid (below_step B3.out b4)
      have V4 := Lib.hid (V3.out.below b4)
      clear b4
      have v4_0 := V4.out.cell 0 _ rfl
      have v4_1 := V4.out.cell 1 _ rfl
      have v4_2 := V4.out.cell 2 _ rfl
      have v4_3 := V4.out.cell 3 _ rfl
      have v4_4 := V4.out.cell 4 _ rfl
      have v4_5 := V4.out.cell 5 _ rfl
      have v4_6 := V4.out.cell 6 _ rfl
      clear v3_0 v3_1 v3_2 v3_3 v3_4 v3_5 v3_6
      go_wp2
      go_ret
      exact ⟨by rw [HR.out]; rfl, B4.out⟩
    ·have HM := Lib.hid g3
     simp only [if_neg g3] at SZ3
     have SZ3 := Lib.hid SZ3
     clear g3
     have HR := Lib.hid (show IntK.leftOf L (szRuleU (z0, x1, x2, x3, (z4, x5, z6))) = -1 by simp only [szRuleU]; unfold IntK.leftOf; have := HM0.out; have := HM1.out; have := HM2.out; have := HM.out; rw [if_neg (by omega)])
     clear hs1a hs1b hs2a hs2b hs3a hs3b hs4 h1 h2 h3 h5
     go_enter Tryz.func106, Tryz.ntmps106
     go_wp2_with fail
     refine (Calls.mono (SZ1.out _ B0.out)) ?_
     rintro e w1 ⟨rfl, b1⟩
     have B1 := Lib.hid (below_step B0.out b1)
     have V1 := Lib.hid (V0.out.below b1)
     clear b1
     have v1_0 := V1.out.cell 0 _ rfl
     have v1_1 := V1.out.cell 1 _ rfl
     have v1_2 := V1.out.cell 2 _ rfl
     have v1_3 := V1.out.cell 3 _ rfl
     have v1_4 := V1.out.cell 4 _ rfl
     have v1_5 := V1.out.cell 5 _ rfl
     have v1_6 := V1.out.cell 6 _ rfl
     go_wp2_with fail
     refine (Calls.mono (SZ2.out _ B1.out)) ?_
     rintro e w2 ⟨rfl, b2⟩
     have B2 := Lib.hid (below_step B1.out b2)
     have V2 := Lib.hid (V1.out.below b2)
     clear b2
     have v2_0 := V2.out.cell 0 _ rfl
     have v2_1 := V2.out.cell 1 _ rfl
     have v2_2 := V2.out.cell 2 _ rfl
     have v2_3 := V2.out.cell 3 _ rfl
     have v2_4 := V2.out.cell 4 _ rfl
     have v2_5 := V2.out.cell 5 _ rfl
     have v2_6 := V2.out.cell 6 _ rfl
     clear v1_0 v1_1 v1_2 v1_3 v1_4 v1_5 v1_6
     go_wp2_with fail
     refine (Calls.mono (SZ3.out _ B2.out)) ?_
     rintro e w3 ⟨rfl, b3⟩
     have B3 := Lib.hid (below_step B2.out b3)
     have V3 := Lib.hid (V2.out.below b3)
     clear b3
     have v3_0 := V3.out.cell 0 _ rfl
     have v3_1 := V3.out.cell 1 _ rfl
     have v3_2 := V3.out.cell 2 _ rfl
     have v3_3 := V3.out.cell 3 _ rfl
     have v3_4 := V3.out.cell 4 _ rfl
     have v3_5 := V3.out.cell 5 _ rfl
     have v3_6 := V3.out.cell 6 _ rfl
     clear v2_0 v2_1 v2_2 v2_3 v2_4 v2_5 v2_6
     go_wp2
     go_ret
     exact ⟨by rw [HR.out]; rfl, B3.out⟩
   ·have HM := Lib.hid g2
    simp only [if_neg g2] at SZ2
    have SZ2 := Lib.hid SZ2
    clear g2
    have HR := Lib.hid (show IntK.leftOf L (szRuleU (z0, x1, x2, x3, (z4, x5, z6))) = -1 by simp only [szRuleU]; unfold IntK.leftOf; have := HM0.out; have := HM1.out; have := HM.out; rw [if_neg (by omega)])
    clear hs1a hs1b hs2a hs2b hs3a hs3b hs4 h1 h2 h3 h5
    go_enter Tryz.func106, Tryz.ntmps106
    go_wp2_with fail
    refine (Calls.mono (SZ1.out _ B0.out)) ?_
    rintro e w1 ⟨rfl, b1⟩
    have B1 := Lib.hid (below_step B0.out b1)
    have V1 := Lib.hid (V0.out.below b1)
    clear b1
    have v1_0 := V1.out.cell 0 _ rfl
    have v1_1 := V1.out.cell 1 _ rfl
    have v1_2 := V1.out.cell 2 _ rfl
    have v1_3 := V1.out.cell 3 _ rfl
    have v1_4 := V1.out.cell 4 _ rfl
    have v1_5 := V1.out.cell 5 _ rfl
    have v1_6 := V1.out.cell 6 _ rfl
    go_wp2_with fail
    refine (Calls.mono (SZ2.out _ B1.out)) ?_
    rintro e w2 ⟨rfl, b2⟩
    have B2 := Lib.hid (below_step B1.out b2)
    have V2 := Lib.hid (V1.out.below b2)
    clear b2
    have v2_0 := V2.out.cell 0 _ rfl
    have v2_1 := V2.out.cell 1 _ rfl
    have v2_2 := V2.out.cell 2 _ rfl
    have v2_3 := V2.out.cell 3 _ rfl
    have v2_4 := V2.out.cell 4 _ rfl
    have v2_5 := V2.out.cell 5 _ rfl
    have v2_6 := V2.out.cell 6 _ rfl
    clear v1_0 v1_1 v1_2 v1_3 v1_4 v1_5 v1_6
    go_wp2
    go_ret
    exact ⟨by rw [HR.out]; rfl, B2.out⟩
  ·have HM := Lib.hid g1
   simp only [if_neg g1] at SZ1
   have SZ1 := Lib.hid SZ1
   clear g1
   have HR := Lib.hid (show IntK.leftOf L (szRuleU (z0, x1, x2, x3, (z4, x5, z6))) = -1 by simp only [szRuleU]; unfold IntK.leftOf; have := HM0.out; have := HM.out; rw [if_neg (by omega)])
   clear hs1a hs1b hs2a hs2b hs3a hs3b hs4 h1 h2 h3 h5
   go_enter Tryz.func106, Tryz.ntmps106
   go_wp2_with fail
   refine (Calls.mono (SZ1.out _ B0.out)) ?_
   rintro e w1 ⟨rfl, b1⟩
   have B1 := Lib.hid (below_step B0.out b1)
   have V1 := Lib.hid (V0.out.below b1)
   clear b1
   have v1_0 := V1.out.cell 0 _ rfl
   have v1_1 := V1.out.cell 1 _ rfl
   have v1_2 := V1.out.cell 2 _ rfl
   have v1_3 := V1.out.cell 3 _ rfl
   have v1_4 := V1.out.cell 4 _ rfl
   have v1_5 := V1.out.cell 5 _ rfl
   have v1_6 := V1.out.cell 6 _ rfl
   go_wp2
   go_ret
   exact ⟨by rw [HR.out]; rfl, B1.out⟩
 ·have HM := Lib.hid g0
  have hd0 : decide ((L : Int) - (z0.size : Int) < 0) = true := decide_eq_true (by omega)
  clear g0
  have HR := Lib.hid (show IntK.leftOf L (szRuleU (z0, x1, x2, x3, (z4, x5, z6))) = -1 by simp only [szRuleU]; unfold IntK.leftOf; have := HM.out; rw [if_neg (by omega)])
  clear hs1a hs1b hs2a hs2b hs3a hs3b hs4 h1 h2 h3 h5
  go_enter Tryz.func106, Tryz.ntmps106
  go_wp2
  go_ret
  exact ⟨by rw [HR.out]; rfl, B0.out⟩
set_option maxHeartbeats 4000000 in
set_option maxRecDepth 100000 in
theorem eqRuleU (q1 p1 : Bool) (f1 g1 : List Nat) (q2 p2 : Bool) (f2 g2 : List Nat) (q3 p3 : Bool) (f3 g3 : List Nat) (q5 p5 : Bool) (f5 g5 : List Nat) (z0 : ByteArray) (A1 : Option Addr) (c1 : Nat) (x1 : List PatternT) (A2 : Option Addr) (c2 : Nat) (x2 : List SumT) (A3 : Option Addr) (c3 : Nat) (x3 : List CallT) (z4 : Bool) (A5 : Option Addr) (c5 : Nat) (x5 : List SumT) (z6 : ByteArray) (B1 : Option Addr) (d1 : Nat) (B2 : Option Addr) (d2 : Nat) (B3 : Option Addr) (d3 : Nat) (B5 : Option Addr) (d5 : Nat) (w : World) (h1 : (Rep.slice pat).rep q1 w f1 [.slice A1 x1.length c1] x1) (h2 : (Rep.slice sum).rep q2 w f2 [.slice A2 x2.length c2] x2) (h3 : (Rep.slice call).rep q3 w f3 [.slice A3 x3.length c3] x3) (h5 : (Rep.slice sum).rep q5 w f5 [.slice A5 x5.length c5] x5) (k1 : (Rep.slice pat).rep p1 w g1 [.slice B1 x1.length d1] x1) (k2 : (Rep.slice sum).rep p2 w g2 [.slice B2 x2.length d2] x2) (k3 : (Rep.slice call).rep p3 w g3 [.slice B3 x3.length d3] x3) (k5 : (Rep.slice sum).rep p5 w g5 [.slice B5 x5.length d5] x5) (hl : szRuleU (z0, x1, x2, x3, (z4, x5, z6)) ≤ 100000000) :
  Calls Tryz.prog 110 #[.agg #[.string z0, .slice A1 x1.length c1, .slice A2 x2.length c2, .slice A3 x3.length c3, .bool z4, .slice A5 x5.length c5, .string z6], .agg #[.string z0, .slice B1 x1.length d1, .slice B2 x2.length d2, .slice B3 x3.length d3, .bool z4, .slice B5 x5.length d5, .string z6]] w fun e w' => e = .returned (.bool true) ∧ Below w.heap.size w w' := by
 simp only [szRuleU] at hl
 have EQ0 := Lib.hid (fun W (h : Below w.heap.size w W) => eqPatternSU q1 p1 f1 g1 A1 B1 c1 d1 x1 W (Rep.below h1 h) (Rep.below k1 h) (by omega))
 have EQ1 := Lib.hid (fun W (h : Below w.heap.size w W) => eqSumSU q2 p2 f2 g2 A2 B2 c2 d2 x2 W (Rep.below h2 h) (Rep.below k2 h) (by omega))
 have EQ2 := Lib.hid (fun W (h : Below w.heap.size w W) => eqCallSU q3 p3 f3 g3 A3 B3 c3 d3 x3 W (Rep.below h3 h) (Rep.below k3 h) (by omega))
 have EQ3 := Lib.hid (fun W (h : Below w.heap.size w W) => eqArgU q5 p5 f5 g5 z4 A5 c5 x5 z6 B5 d5 W (Rep.below h5 h) (Rep.below k5 h) (by simp only [szArgU] at hl ⊢; omega))
 have BB0 := Lib.hid (((Below.refl w.heap.size w).alloc (Nat.le_refl _) (Obj.cells #[Value.string z0, Value.slice A1 x1.length c1, Value.slice A2 x2.length c2, Value.slice A3 x3.length c3, Value.bool z4, Value.slice A5 x5.length c5, Value.string z6] 48)).alloc (by simp) (Obj.cells #[Value.string z0, Value.slice B1 x1.length d1, Value.slice B2 x2.length d2, Value.slice B3 x3.length d3, Value.bool z4, Value.slice B5 x5.length d5, Value.string z6] 48))
 have V0 := Lib.hid ((Lvar.new w #[Value.string z0, Value.slice A1 x1.length c1, Value.slice A2 x2.length c2, Value.slice A3 x3.length c3, Value.bool z4, Value.slice A5 x5.length c5, Value.string z6] 48).alloc (Obj.cells #[Value.string z0, Value.slice B1 x1.length d1, Value.slice B2 x2.length d2, Value.slice B3 x3.length d3, Value.bool z4, Value.slice B5 x5.length d5, Value.string z6] 48))
 have U0 := Lib.hid (Lvar.new (w.alloc (Obj.cells #[Value.string z0, Value.slice A1 x1.length c1, Value.slice A2 x2.length c2, Value.slice A3 x3.length c3, Value.bool z4, Value.slice A5 x5.length c5, Value.string z6] 48)) #[Value.string z0, Value.slice B1 x1.length d1, Value.slice B2 x2.length d2, Value.slice B3 x3.length d3, Value.bool z4, Value.slice B5 x5.length d5, Value.string z6] 48)
 simp only [World.size_alloc] at U0
 clear hl h1 k1 h2 k2 h3 k3 h5 k5
 go_enter Tryz.func110, Tryz.ntmps110
 go_wp2_with fail
 refine (Calls.mono (EQ0.out _ ?_)) ?_
 ·first | exact BB0.out | exact BB0.out.drew | exact below_drewN BB0.out _
 rintro e w1 ⟨rfl, b1⟩
 have BB1 := Lib.hid (show Below w.heap.size w w1 from by first | exact BB0.out.trans (b1.mono BB0.out.size) | exact BB0.out.drew.trans (b1.mono BB0.out.size) | exact (below_drewN BB0.out _).trans (b1.mono BB0.out.size))
 have V1 := Lib.hid (show Lvar w1 _ _ from by first | exact V0.out.below b1 | exact (V0.out.below (Below.refl _ _).drew).below b1)
 have v1_0 := V1.out.cell 0 _ rfl
 have v1_1 := V1.out.cell 1 _ rfl
 have v1_2 := V1.out.cell 2 _ rfl
 have v1_3 := V1.out.cell 3 _ rfl
 have v1_4 := V1.out.cell 4 _ rfl
 have v1_5 := V1.out.cell 5 _ rfl
 have v1_6 := V1.out.cell 6 _ rfl
 have U1 := Lib.hid (show Lvar w1 _ _ from by first | exact U0.out.below b1 | exact (U0.out.below (Below.refl _ _).drew).below b1)
 have u1_0 := U1.out.cell 0 _ rfl
 have u1_1 := U1.out.cell 1 _ rfl
 have u1_2 := U1.out.cell 2 _ rfl
 have u1_3 := U1.out.cell 3 _ rfl
 have u1_4 := U1.out.cell 4 _ rfl
 have u1_5 := U1.out.cell 5 _ rfl
 have u1_6 := U1.out.cell 6 _ rfl
 clear b1
 go_wp2_with fail
 refine (Calls.mono (EQ1.out _ ?_)) ?_
 ·first | exact BB1.out | exact BB1.out.drew | exact below_drewN BB1.out _
 rintro e w2 ⟨rfl, b2⟩
 have BB2 := Lib.hid (show Below w.heap.size w w2 from by first | exact BB1.out.trans (b2.mono BB1.out.size) | exact BB1.out.drew.trans (b2.mono BB1.out.size) | exact (below_drewN BB1.out _).trans (b2.mono BB1.out.size))
 have V2 := Lib.hid (show Lvar w2 _ _ from by first | exact V1.out.below b2 | exact (V1.out.below (Below.refl _ _).drew).below b2)
 have v2_0 := V2.out.cell 0 _ rfl
 have v2_1 := V2.out.cell 1 _ rfl
 have v2_2 := V2.out.cell 2 _ rfl
 have v2_3 := V2.out.cell 3 _ rfl
 have v2_4 := V2.out.cell 4 _ rfl
 have v2_5 := V2.out.cell 5 _ rfl
 have v2_6 := V2.out.cell 6 _ rfl
 clear v1_0 v1_1 v1_2 v1_3 v1_4 v1_5 v1_6
 have U2 := Lib.hid (show Lvar w2 _ _ from by first | exact U1.out.below b2 | exact (U1.out.below (Below.refl _ _).drew).below b2)
 have u2_0 := U2.out.cell 0 _ rfl
 have u2_1 := U2.out.cell 1 _ rfl
 have u2_2 := U2.out.cell 2 _ rfl
 have u2_3 := U2.out.cell 3 _ rfl
 have u2_4 := U2.out.cell 4 _ rfl
 have u2_5 := U2.out.cell 5 _ rfl
 have u2_6 := U2.out.cell 6 _ rfl
 clear u1_0 u1_1 u1_2 u1_3 u1_4 u1_5 u1_6
 clear b2
 go_wp2_with fail
 refine (Calls.mono (EQ2.out _ ?_)) ?_
 ·first | exact BB2.out | exact BB2.out.drew | exact below_drewN BB2.out _
 rintro e w3 ⟨rfl, b3⟩
 have BB3 := Lib.hid (show Below w.heap.size w w3 from by first | exact BB2.out.trans (b3.mono BB2.out.size) | exact BB2.out.drew.trans (b3.mono BB2.out.size) | exact (below_drewN BB2.out _).trans (b3.mono BB2.out.size))
 have V3 := Lib.hid (show Lvar w3 _ _ from by first | exact V2.out.below b3 | exact (V2.out.below (Below.refl _ _).drew).below b3)
 have v3_0 := V3.out.cell 0 _ rfl
 have v3_1 := V3.out.cell 1 _ rfl
 have v3_2 := V3.out.cell 2 _ rfl
 have v3_3 := V3.out.cell 3 _ rfl
 have v3_4 := V3.out.cell 4 _ rfl
 have v3_5 := V3.out.cell 5 _ rfl
 have v3_6 := V3.out.cell 6 _ rfl
 clear v2_0 v2_1 v2_2 v2_3 v2_4 v2_5 v2_6
 have U3 := Lib.hid (show Lvar w3 _ _ from by first | exact U2.out.below b3 | exact (U2.out.below (Below.refl _ _).drew).below b3)
 have u3_0 := U3.out.cell 0 _ rfl
 have u3_1 := U3.out.cell 1 _ rfl
 have u3_2 := U3.out.cell 2 _ rfl
 have u3_3 := U3.out.cell 3 _ rfl
 have u3_4 := U3.out.cell 4 _ rfl
 have u3_5 := U3.out.cell 5 _ rfl
 have u3_6 := U3.out.cell 6 _ rfl
 clear u2_0 u2_1 u2_2 u2_3 u2_4 u2_5 u2_6
 clear b3
 go_wp2_with fail
 refine (Calls.mono (EQ3.out _ ?_)) ?_
 ·first | exact BB3.out | exact BB3.out.drew | exact below_drewN BB3.out _
 rintro e w4 ⟨rfl, b4⟩
 have BB4 := Lib.hid (show Below w.heap.size w w4 from by first | exact BB3.out.trans (b4.mono BB3.out.size) | exact BB3.out.drew.trans (b4.mono BB3.out.size) | exact (below_drewN BB3.out _).trans (b4.mono BB3.out.size))
 have V4 := Lib.hid (show Lvar w4 _ _ from by first | exact V3.out.below b4 | exact (V3.out.below (Below.refl _ _).drew).below b4)
 have v4_0 := V4.out.cell 0 _ rfl
 have v4_1 := V4.out.cell 1 _ rfl
 have v4_2 := V4.out.cell 2 _ rfl
 have v4_3 := V4.out.cell 3 _ rfl
 have v4_4 := V4.out.cell 4 _ rfl
 have v4_5 := V4.out.cell 5 _ rfl
 have v4_6 := V4.out.cell 6 _ rfl
 clear v3_0 v3_1 v3_2 v3_3 v3_4 v3_5 v3_6
 have U4 := Lib.hid (show Lvar w4 _ _ from by first | exact U3.out.below b4 | exact (U3.out.below (Below.refl _ _).drew).below b4)
 have u4_0 := U4.out.cell 0 _ rfl
 have u4_1 := U4.out.cell 1 _ rfl
 have u4_2 := U4.out.cell 2 _ rfl
 have u4_3 := U4.out.cell 3 _ rfl
 have u4_4 := U4.out.cell 4 _ rfl
 have u4_5 := U4.out.cell 5 _ rfl
 have u4_6 := U4.out.cell 6 _ rfl
 clear u3_0 u3_1 u3_2 u3_3 u3_4 u3_5 u3_6
 clear b4
 go_wp2
 go_ret
 exact ⟨rfl, BB4.out⟩
theorem run_mkRuleU (n : Nat) (hn : n ≤ 100000000000) (u : World) : (Instr.makeSlice 25 (.int .i64 (n : Int)) (.int .i64 (n : Int))).run Tryz.prog u =
  .ok (.slice (some ⟨u.heap.size, 0, none⟩) n n) (u.alloc (.cells (madeCells #[.string ByteArray.empty, .slice none 0 0, .slice none 0 0, .slice none 0 0, .bool false, .slice none 0 0, .string ByteArray.empty] (n * 7)) 48)) := by
 obtain ⟨i0, hi, hz0, hz1, hz2⟩ := info_parts infoRule
 have h := run_make (P := Tryz.prog) u 25 48 i0 (.agg #[.string ByteArray.empty, .slice none 0 0, .slice none 0 0, .slice none 0 0, .bool false, .slice none 0 0, .string ByteArray.empty]) Tryz.underlying25 hi hz0 .i64 .i64 (n : Int) (n : Int) (by omega) (Int.le_refl _) (by rw [hz2]; omega) (by omega)
 simpa [hz1, Value.cells] using h
set_option maxHeartbeats 4000000 in
set_option maxRecDepth 100000 in
theorem copyRuleSU (q : Bool) (fp : List Nat) (A : Option Addr) (c : Nat) (xs : List RuleT) (w : World) (hA : (Rep.slice rule).rep q w fp [.slice A xs.length c] xs) (hl : xs.length + szs szRuleU xs ≤ 100000000) :
  Calls Tryz.prog 69 #[.slice A xs.length c] w (CopiedU rule w xs) := by
 have hxl : xs.length ≤ 100000000 := by omega
 have hmk := run_mkRuleU xs.length (by omega)
 have HZ := Lib.hid (Filling.made (r := rule) (e := 48) (z := zeroRule) (ok := fun b => w.heap.size ≤ b) w (madeCells #[.string ByteArray.empty, .slice none 0 0, .slice none 0 0, .slice none 0 0, .bool false, .slice none 0 0, .string ByteArray.empty] (xs.length * 7)) (made_gen [.string ByteArray.empty, .slice none 0 0, .slice none 0 0, .slice none 0 0, .bool false, .slice none 0 0, .string ByteArray.empty] ((ByteArray.empty, [], [], [], (false, [], ByteArray.empty)) : RuleT) (by simp) xs.length) (Nat.le_refl _))
 have HB0 := Lib.hid ((Below.refl w.heap.size w).alloc (Nat.le_refl _) (Obj.cells (madeCells #[.string ByteArray.empty, .slice none 0 0, .slice none 0 0, .slice none 0 0, .bool false, .slice none 0 0, .string ByteArray.empty] (xs.length * 7)) 48))
 have HL := Lib.hid hl
 have HA := Lib.hid hA
 clear hl hA
 go_enter Tryz.func69, Tryz.ntmps69
 go_wp2
 go_loopw [4] (fun i wr => ∃ k : Nat, k ≤ xs.length ∧ i = .int .i64 k ∧ Filling rule 48 zeroRule (fun b => w.heap.size ≤ b) wr w.heap.size xs.length (xs.take k) ∧ Below w.heap.size w wr) (fun i _ => xs.length - (intOf i).toNat)
 case atStart => exact ⟨0, Nat.zero_le _, rfl, HZ.out, HB0.out⟩
 case round =>
  obtain ⟨k, hk, rfl, hS, hb⟩ := hrel
  have HS := Lib.hid hS
  have HB := Lib.hid hb
  clear hS hb
  by_cases hlt : k < xs.length
  ·obtain ⟨b, o, A1, c1, f1, A2, c2, f2, A3, c3, f3, A5, c5, f5, rfl, hbb, g0, g1, g2, g3, g4, g5, g6, t1, t2, t3, t5⟩ := rules_at (Rep.below HA.out HB.out) hlt
   have htl : (xs.take k).length = k := by rw [List.length_take]; omega
   have hk' : (xs.take k).length < xs.length := by rw [htl]; exact hlt
   obtain ⟨p0, y0⟩ := HS.out.cell (j := 0) (u := .string ByteArray.empty) rfl hk' (by decide) rfl
   have p0 : wr.cell? ⟨w.heap.size, (xs.take k).length * 7, none⟩ = some (.string ByteArray.empty) := p0
   have y0 : wr.frozen? ⟨w.heap.size, (xs.take k).length * 7, none⟩ = false := y0
   obtain ⟨p1, y1⟩ := HS.out.cell (j := 1) (u := .slice none 0 0) rfl hk' (by decide) rfl
   have p1 : wr.cell? ⟨w.heap.size, (xs.take k).length * 7 + 1, none⟩ = some (.slice none 0 0) := p1
   have y1 : wr.frozen? ⟨w.heap.size, (xs.take k).length * 7 + 1, none⟩ = false := y1
   obtain ⟨p2, y2⟩ := HS.out.cell (j := 2) (u := .slice none 0 0) rfl hk' (by decide) rfl
   have p2 : wr.cell? ⟨w.heap.size, (xs.take k).length * 7 + 2, none⟩ = some (.slice none 0 0) := p2
   have y2 : wr.frozen? ⟨w.heap.size, (xs.take k).length * 7 + 2, none⟩ = false := y2
   obtain ⟨p3, y3⟩ := HS.out.cell (j := 3) (u := .slice none 0 0) rfl hk' (by decide) rfl
   have p3 : wr.cell? ⟨w.heap.size, (xs.take k).length * 7 + 3, none⟩ = some (.slice none 0 0) := p3
   have y3 : wr.frozen? ⟨w.heap.size, (xs.take k).length * 7 + 3, none⟩ = false := y3
   obtain ⟨p4, y4⟩ := HS.out.cell (j := 4) (u := .bool false) rfl hk' (by decide) rfl
   have p4 : wr.cell? ⟨w.heap.size, (xs.take k).length * 7 + 4, none⟩ = some (.bool false) := p4
   have y4 : wr.frozen? ⟨w.heap.size, (xs.take k).length * 7 + 4, none⟩ = false := y4
   obtain ⟨p5, y5⟩ := HS.out.cell (j := 5) (u := .slice none 0 0) rfl hk' (by decide) rfl
   have p5 : wr.cell? ⟨w.heap.size, (xs.take k).length * 7 + 5, none⟩ = some (.slice none 0 0) := p5
   have y5 : wr.frozen? ⟨w.heap.size, (xs.take k).length * 7 + 5, none⟩ = false := y5
   obtain ⟨p6, y6⟩ := HS.out.cell (j := 6) (u := .string ByteArray.empty) rfl hk' (by decide) rfl
   have p6 : wr.cell? ⟨w.heap.size, (xs.take k).length * 7 + 6, none⟩ = some (.string ByteArray.empty) := p6
   have y6 : wr.frozen? ⟨w.heap.size, (xs.take k).length * 7 + 6, none⟩ = false := y6
   rw [htl] at p0 y0 p1 y1 p2 y2 p3 y3 p4 y4 p5 y5 p6 y6
   have hz := HS.out.lt
   have HT := Lib.hid (take_snoc hlt)
   have HTL := Lib.hid htl
   have hs9 : szRuleU xs[k] ≤ 100000000 := by
    have := HL.out
    have := szs_mem (sz := szRuleU) (List.getElem_mem hlt)
    omega
   clear htl hk'
   generalize xs[k] = x at *
   obtain ⟨z0, x1, x2, x3, ⟨z4, x5, z6⟩⟩ := x
   simp only at g0 g1 g2 g3 g4 g5 g6 t1 t2 t3 t5
   have CP := Lib.hid (copyRuleU _ f1 _ f2 _ f3 _ f5 z0 A1 c1 x1 A2 c2 x2 A3 c3 x3 z4 A5 c5 x5 z6 wr t1 t2 t3 t5 hs9)
   have hi0 : (0 : Int) ≤ (k : Int) := by omega
   have hi1 : (k : Int) < (xs.length : Int) := by omega
   go_wp2_with fail
   refine (Calls.mono CP.out) ?_
   rintro e w1 ⟨D1, D2, D3, D5, rfl, ⟨_, fG, k1, k2, k3⟩, b1⟩
   have HW := Lib.hid b1
   have hS2 := Filling.snoc (m := wr.heap.size) HS.out rfl (by rw [HTL.out]; exact hlt) b1 (Nat.le_refl _) k1 k2 (fun b hb => (k3 b hb).1) (fun b hb => Nat.le_trans HB.out.size hb)
   rw [HTL.out, ← HT.out] at hS2
   have HS2 := Lib.hid (show Filling rule 48 zeroRule (fun b => w.heap.size ≤ b) (((((((w1.setCell ⟨w.heap.size, k * 7, none⟩ (.string z0)).setCell ⟨w.heap.size, k * 7 + 1, none⟩ (.slice D1 x1.length x1.length)).setCell ⟨w.heap.size, k * 7 + 2, none⟩ (.slice D2 x2.length x2.length)).setCell ⟨w.heap.size, k * 7 + 3, none⟩ (.slice D3 x3.length x3.length)).setCell ⟨w.heap.size, k * 7 + 4, none⟩ (.bool z4)).setCell ⟨w.heap.size, k * 7 + 5, none⟩ (.slice D5 x5.length x5.length)).setCell ⟨w.heap.size, k * 7 + 6, none⟩ (.string z6)) w.heap.size xs.length (xs.take (k + 1)) from hS2)
   have HB2 := Lib.hid ((((((((HB.out.trans (b1.mono HB.out.size)).setCell (p := ⟨w.heap.size, k * 7, none⟩) (Nat.le_refl _) (.string z0)).setCell (p := ⟨w.heap.size, k * 7 + 1, none⟩) (Nat.le_refl _) (.slice D1 x1.length x1.length)).setCell (p := ⟨w.heap.size, k * 7 + 2, none⟩) (Nat.le_refl _) (.slice D2 x2.length x2.length)).setCell (p := ⟨w.heap.size, k * 7 + 3, none⟩) (Nat.le_refl _) (.slice D3 x3.length x3.length)).setCell (p := ⟨w.heap.size, k * 7 + 4, none⟩) (Nat.le_refl _) (.bool z4)).setCell (p := ⟨w.heap.size, k * 7 + 5, none⟩) (Nat.le_refl _) (.slice D5 x5.length x5.length)).setCell (p := ⟨w.heap.size, k * 7 + 6, none⟩) (Nat.le_refl _) (.string z6))
   have p0' := (b1.cell (p := ⟨w.heap.size, k * 7, none⟩) hz).trans p0
   have y0' := (b1.frozen (p := ⟨w.heap.size, k * 7, none⟩) hz).trans y0
   have p1' := (b1.cell (p := ⟨w.heap.size, k * 7 + 1, none⟩) hz).trans p1
   have y1' := (b1.frozen (p := ⟨w.heap.size, k * 7 + 1, none⟩) hz).trans y1
   have p2' := (b1.cell (p := ⟨w.heap.size, k * 7 + 2, none⟩) hz).trans p2
   have y2' := (b1.frozen (p := ⟨w.heap.size, k * 7 + 2, none⟩) hz).trans y2
   have p3' := (b1.cell (p := ⟨w.heap.size, k * 7 + 3, none⟩) hz).trans p3
   have y3' := (b1.frozen (p := ⟨w.heap.size, k * 7 + 3, none⟩) hz).trans y3
   have p4' := (b1.cell (p := ⟨w.heap.size, k * 7 + 4, none⟩) hz).trans p4
   have y4' := (b1.frozen (p := ⟨w.heap.size, k * 7 + 4, none⟩) hz).trans y4
   have p5' := (b1.cell (p := ⟨w.heap.size, k * 7 + 5, none⟩) hz).trans p5
   have y5' := (b1.frozen (p := ⟨w.heap.size, k * 7 + 5, none⟩) hz).trans y5
   have p6' := (b1.cell (p := ⟨w.heap.size, k * 7 + 6, none⟩) hz).trans p6
   have y6' := (b1.frozen (p := ⟨w.heap.size, k * 7 + 6, none⟩) hz).trans y6
   clear hS2 b1 k1 k2 k3 p0 y0 g0 p1 y1 g1 p2 y2 g2 p3 y3 g3 p4 y4 g4 p5 y5 g5 p6 y6 g6
   go_wp2
   go_roundw
   case rel => exact ⟨k + 1, by omega, by go_num, HS2.out, HB2.out⟩
   case measure => simp [intOf]; omega
  ·obtain rfl : k = xs.length := by omega
   have hS := HS.out
   rw [List.take_length] at hS
   obtain ⟨A2, c2, fp2, h1, h2, h3, h4⟩ := (hS.done (by unfold maxLen; have := HL.out; omega)).rep (by decide)
   injection h1 with h1 _ h5
   subst h1; subst h5
   have HN := Lib.hid (show New (Rep.slice rule) w xs wr [.slice (some ⟨w.heap.size, 0, none⟩) xs.length xs.length] from ⟨fp2, h2, h3, h4⟩)
   clear hS HS h2 h3 h4
   go_wp2
   go_ret
   exact ⟨_, rfl, OwnR.of_new HN.out, HB.out⟩

def SzRuleU (w : World) (xs : List RuleT) (m : Nat) (x i : Value) (wr : World) : Prop :=
 ∃ k l : Nat, k ≤ xs.length ∧ i = .int .i64 k ∧ x = .int .i64 l ∧ l + szs szRuleU (xs.take k) + xs.length = m ∧ Below w.heap.size w wr
set_option maxHeartbeats 4000000 in
set_option maxRecDepth 100000 in
theorem sizeRuleSU (q : Bool) (fp : List Nat) (A : Option Addr) (c L : Nat) (xs : List RuleT) (w : World) (hA : (Rep.slice rule).rep q w fp [.slice A xs.length c] xs) (hL : L ≤ 1000000000) (hl : xs.length ≤ 9223372036854775807) (hs : ∀ x ∈ xs, WfRuleU x) :
  Calls Tryz.prog 67 #[.slice A xs.length c, .int .i64 L] w fun e w' => e = .returned (.int .i64 (IntK.leftOf L (xs.length + szs szRuleU xs))) ∧ Below w.heap.size w w' := by
 have HS := Lib.hid hs
 by_cases h0 : xs.length ≤ L
 ·have hlt0 : decide ((L : Int) - (xs.length : Int) < 0) = false := decide_eq_false (by omega)
  have hx9 : xs.length ≤ 1000000000 := by omega
  clear hs
  go_enter Tryz.func67, Tryz.ntmps67
  go_wp2
  go_loopw [1, 5] (fun x i wr => SzRuleU w xs L x i wr) (fun _ i _ => xs.length - (intOf i).toNat)
  case atStart => exact ⟨0, L - xs.length, Nat.zero_le _, rfl, congrArg (Value.int .i64) (by omega), by simp [szs]; omega, Below.refl _ _⟩
  case round =>
   obtain ⟨k, l, hk, rfl, rfl, hsum, hb⟩ := hrel
   by_cases hlt : k < xs.length
   ·obtain ⟨b, o, A1, c1, f1, A2, c2, f2, A3, c3, f3, A5, c5, f5, rfl, hbb, g0, g1, g2, g3, g4, g5, g6, t1, t2, t3, t5⟩ := rules_at (Rep.below hA hb) hlt
    have hxs := HS.out _ (List.getElem_mem hlt)
    have hts := szs_step (sz := szRuleU) hlt
    have hle := szs_take (sz := szRuleU) xs (k + 1)
    generalize xs[k] = x at *
    obtain ⟨z0, x1, x2, x3, ⟨z4, x5, z6⟩⟩ := x
    simp only at g0 g1 g2 g3 g4 g5 g6 t1 t2 t3 t5
    obtain ⟨s0, hs0⟩ : ∃ s0 : Nat, s0 = szRuleU (z0, x1, x2, x3, (z4, x5, z6)) := ⟨_, rfl⟩
    have SZ := Lib.hid (sizeRuleU _ f1 _ f2 _ f3 _ f5 z0 A1 c1 x1 A2 c2 x2 A3 c3 x3 z4 A5 c5 x5 z6 l wr t1 t2 t3 t5 (by omega) hxs)
    rw [← hs0] at SZ hts
    have HT := Lib.hid hts
    have HE := Lib.hid hle
    have HM := Lib.hid hsum
    unfold IntK.leftOf at SZ
    clear hts hle hsum hxs hs0
    by_cases hc : s0 ≤ l
    ·rw [if_pos hc] at SZ
     obtain ⟨l', rfl⟩ : ∃ l', l = s0 + l' := ⟨l - s0, by omega⟩
     rw [show ((s0 + l' : Nat) : Int) - ((s0 : Nat) : Int) = (l' : Int) by omega] at SZ
     have hl0 : decide ((l' : Int) < 0) = false := decide_eq_false (by omega)
     clear hc
     go_wp2_with fail
     refine (Calls.mono SZ.out) ?_
     rintro e w1 ⟨rfl, b1⟩
     have B1 := Lib.hid (hb.trans (b1.mono hb.size))
     clear b1
     go_wp2
     go_roundw
     case rel => exact ⟨k + 1, l', by omega, by go_num, rfl, by have := HM.out; have := HT.out; omega, B1.out⟩
     case measure => simp [intOf]; omega
    ·rw [if_neg hc] at SZ
     have HR := Lib.hid (show IntK.leftOf L (xs.length + szs szRuleU xs) = -1 from if_neg (by have := HM.out; have := HT.out; have := HE.out; omega))
     clear hc
     go_wp2_with fail
     refine (Calls.mono SZ.out) ?_
     rintro e w1 ⟨rfl, b1⟩
     have B1 := Lib.hid (hb.trans (b1.mono hb.size))
     clear b1
     go_wp2
     go_ret
     exact ⟨by rw [HR.out]; rfl, B1.out⟩
   ·obtain rfl : k = xs.length := by omega
    rw [List.take_length] at hsum
    have HR := Lib.hid (show IntK.leftOf L (xs.length + szs szRuleU xs) = (l : Int) by
     unfold IntK.leftOf
     rw [if_pos (by omega)]
     omega)
    clear hsum
    go_wp2
    go_ret
    exact ⟨by rw [HR.out]; rfl, hb⟩
 ·have HR := Lib.hid (show IntK.leftOf L (xs.length + szs szRuleU xs) = -1 from if_neg (by omega))
  have hlt0 : decide ((L : Int) - (xs.length : Int) < 0) = true := decide_eq_true (by omega)
  clear hs
  go_enter Tryz.func67, Tryz.ntmps67
  go_wp2
  go_ret
  exact ⟨by rw [HR.out]; rfl, Below.refl _ _⟩

set_option maxHeartbeats 4000000 in
set_option maxRecDepth 100000 in
theorem eqRuleSU (q q2 : Bool) (fp gp : List Nat) (A B : Option Addr) (c d : Nat) (xs : List RuleT) (w : World) (hA : (Rep.slice rule).rep q w fp [.slice A xs.length c] xs) (hB : (Rep.slice rule).rep q2 w gp [.slice B xs.length d] xs) (hl : xs.length + szs szRuleU xs ≤ 100000000) :
  Calls Tryz.prog 72 #[.slice A xs.length c, .slice B xs.length d] w fun e w' => e = .returned (.bool true) ∧ Below w.heap.size w w' := by
 have HL := Lib.hid hl
 clear hl
 have hxl : xs.length ≤ 1000000000 := by have := HL.out; omega
 go_enter Tryz.func72, Tryz.ntmps72
 go_wp2
 go_loopw [5] (fun i wr => ∃ k : Nat, k ≤ xs.length ∧ i = .int .i64 k ∧ Below w.heap.size w wr) (fun i _ => xs.length - (intOf i).toNat)
 case atStart => exact ⟨0, Nat.zero_le _, rfl, Below.refl _ _⟩
 case round =>
  obtain ⟨k, hk, rfl, hb⟩ := hrel
  by_cases hlt : k < xs.length
  ·obtain ⟨b, o, A1, c1, f1, A2, c2, f2, A3, c3, f3, A5, c5, f5, rfl, hbb, g0, g1, g2, g3, g4, g5, g6, t1, t2, t3, t5⟩ := rules_at (Rep.below hA hb) hlt
   obtain ⟨b', o', A1', c1', f1', A2', c2', f2', A3', c3', f3', A5', c5', f5', rfl, hbb', g0', g1', g2', g3', g4', g5', g6', t1', t2', t3', t5'⟩ := rules_at (Rep.below hB hb) hlt
   have hs9 : szRuleU xs[k] ≤ 100000000 := by
    have := HL.out
    have := szs_mem (sz := szRuleU) (List.getElem_mem hlt)
    omega
   generalize xs[k] = x at *
   obtain ⟨z0, x1, x2, x3, ⟨z4, x5, z6⟩⟩ := x
   simp only at g0 g0' g1 g1' g2 g2' g3 g3' g4 g4' g5 g5' g6 g6' t1 t1' t2 t2' t3 t3' t5 t5'
   have hd : Below wr.heap.size wr wr.drew := (Below.refl _ _).drew
   have EQ := Lib.hid (eqRuleU _ _ f1 f1' _ _ f2 f2' _ _ f3 f3' _ _ f5 f5' z0 A1 c1 x1 A2 c2 x2 A3 c3 x3 z4 A5 c5 x5 z6 A1' c1' A2' c2' A3' c3' A5' c5' wr.drew (Rep.below t1 hd) (Rep.below t2 hd) (Rep.below t3 hd) (Rep.below t5 hd) (Rep.below t1' hd) (Rep.below t2' hd) (Rep.below t3' hd) (Rep.below t5' hd) hs9)
   have hi0 : (0 : Int) ≤ (k : Int) := by omega
   have hi1 : (k : Int) < (xs.length : Int) := by omega
   clear hd
   go_wp2_with fail
   go_region_law (first
    | (go_simp; go_at_call 110; refine (Calls.mono EQ.out) ?_; rintro e w1 ⟨rfl, b1⟩))
   all_goals
    have B1' := Lib.hid (hb.trans (((Below.refl wr.heap.size wr).drew.trans b1).mono hb.size))
    clear b1
    go_wp2
    go_roundw
    case rel => exact ⟨k + 1, by omega, by go_num, B1'.out⟩
    case measure => simp [intOf]; omega
  ·go_wp2
   go_ret
   exact ⟨rfl, hb⟩

set_option maxHeartbeats 4000000 in
set_option maxRecDepth 100000 in
theorem markRuleSU (fp : List Nat) (A : Option Addr) (c k0 : Nat) (xs : List RuleT) (w : World) (hA : (Rep.slice rule).rep true w fp [.slice A xs.length c] xs) (hn : fp.Nodup) (h1 : 1 ≤ k0) (hk0 : k0 + 8 * (xs.length + szs szRuleU xs) ≤ 1000000000) :
  Calls Tryz.prog 74 #[.slice A xs.length c, .int .i64 k0] w (MarkedU rule mkRuleU nRuleU fp w A c k0 xs) := by
 by_cases h0 : xs = []
 ·subst h0
  have F := Lib.hid (show MarkedU rule mkRuleU nRuleU fp w A c k0 [] (.returned (.int .i64 k0)) w from ⟨by simp [szs], hA, ModF.refl _ _⟩)
  clear hA
  go_enter Tryz.func74, Tryz.ntmps74
  go_wp2
  refine wp_loop_rounds 1 ?_
  rw [rounds_succ]
  go_wp2
  go_ret
  exact F.out
 ·have HK := Lib.hid hk0
  have hxl : xs.length ≤ 1000000000 := by omega
  have HK1 := Lib.hid h1
  have HNE := Lib.hid h0
  have HC := Lib.hid (show xs.length ≤ c by
   obtain ⟨_, _, e, h, _⟩ := hA
   injection e with e _
   injection e with _ _ e
   omega)
  have M0 := Lib.hid (marking_zero (mk := mkRuleU) (sz := nRuleU) k0 hA hn h0)
  clear hA hk0 h0 hn h1
  go_enter Tryz.func74, Tryz.ntmps74
  go_wp2
  go_loopw [1, 5] (fun x i wr => Marking rule mkRuleU nRuleU fp w xs A k0 x i wr) (fun _ i _ => xs.length - (intOf i).toNat)
  case atStart => exact M0.out
  case round =>
   obtain ⟨k, l, rfl, rfl, hk, hl0⟩ : ∃ k l : Nat, u5 = .int .i64 k ∧ u1 = .int .i64 l ∧ k ≤ xs.length ∧ l = k0 + szs nRuleU (xs.take k) := by
    obtain ⟨k, l, _, _, _, _, h1, h2, h3, h4, _⟩ := hrel
    exact ⟨k, l, h2, h3, h1, h4⟩
   by_cases hlt : k < xs.length
   ·obtain ⟨b, o, f, cs, rfl, hbb, hre, hnd, hbf, hcc, hff, hnext⟩ := marking_at hrel hlt
    have hl9 : 1 ≤ l ∧ l + 8 * (1 + szRuleU xs[k]) ≤ 1000000000 := by
     have h2 := szs_bound nRuleU_le (xs.take k)
     have h3 := szs_step (sz := szRuleU) hlt
     have h4 := szs_take (sz := szRuleU) xs (k + 1)
     have h5 : (xs.take k).length = k := by rw [List.length_take]; omega
     have := HK.out
     have := HK1.out
     omega
    clear hl0
    have HNX := Lib.hid hnext
    have HBF := Lib.hid hbf
    obtain ⟨A1, c1, f1, A2, c2, f2, A3, c3, f3, A5, c5, f5, e9, rfl, r1, r2, r3, r5⟩ := rule_open hre
    have e9 := e9.symm
    subst e9
    have g0 := hcc 0 (by decide)
    have g1 := hcc 1 (by decide)
    have g2 := hcc 2 (by decide)
    have g3 := hcc 3 (by decide)
    have g4 := hcc 4 (by decide)
    have g5 := hcc 5 (by decide)
    have g6 := hcc 6 (by decide)
    simp only [show rule.n = 7 from rfl, Nat.add_zero, List.getElem?_cons_zero, List.getElem?_cons_succ] at g0 g1 g2 g3 g4 g5 g6
    have hff : ∀ i, i < 7 → wr.frozen? ⟨b, o + k * 7 + i, none⟩ = false := hff
    have HFF := Lib.hid hff
    clear hnext hcc hff hre hrel
    generalize xs[k] = x at *
    obtain ⟨z0, x1, x2, x3, ⟨z4, x5, z6⟩⟩ := x
    simp only [szRuleU, szArgU] at hl9
    obtain ⟨hl1, hl9⟩ := hl9
    simp only at g0 g1 g2 g3 g4 g5 g6 r1 r2 r3 r5
    have hb1 := szs_bound nPatternU_le x1
    have hb2 := szs_bound nSum_le x2
    have hb3 := szs_bound nCallU_le x3
    have hb5 := szs_bound nSum_le x5
    simp only [List.mem_append, not_or] at hbf
    obtain ⟨hq3, hn5, pa3, pb3⟩ := apart2 hnd
    obtain ⟨hq2, hn3, pa2, pb2⟩ := apart2 hq3
    obtain ⟨hq1, hn2, pa1, pb1⟩ := apart2 hq2
    have hn1 := hq1
    have ap1_5 : ∀ b ∈ f1, b ∉ f5 := fun b hb => pa3 b (by simp [hb])
    have ap5_1 : ∀ b ∈ f5, b ∉ f1 := fun b hb h => pb3 b hb (by simp [h])
    have ap2_5 : ∀ b ∈ f2, b ∉ f5 := fun b hb => pa3 b (by simp [hb])
    have ap5_2 : ∀ b ∈ f5, b ∉ f2 := fun b hb h => pb3 b hb (by simp [h])
    have ap3_5 : ∀ b ∈ f3, b ∉ f5 := fun b hb => pa3 b (by simp [hb])
    have ap5_3 : ∀ b ∈ f5, b ∉ f3 := fun b hb h => pb3 b hb (by simp [h])
    have ap1_3 : ∀ b ∈ f1, b ∉ f3 := fun b hb => pa2 b (by simp [hb])
    have ap3_1 : ∀ b ∈ f3, b ∉ f1 := fun b hb h => pb2 b hb (by simp [h])
    have ap2_3 : ∀ b ∈ f2, b ∉ f3 := fun b hb => pa2 b (by simp [hb])
    have ap3_2 : ∀ b ∈ f3, b ∉ f2 := fun b hb h => pb2 b hb (by simp [h])
    have ap1_2 : ∀ b ∈ f1, b ∉ f2 := fun b hb => pa1 b (by simp [hb])
    have ap2_1 : ∀ b ∈ f2, b ∉ f1 := fun b hb h => pb1 b hb (by simp [h])
    clear hq1 pa1 pb1 hq2 pa2 pb2 hq3 pa3 pb3
    obtain ⟨⟨⟨nb1, nb2⟩, nb3⟩, nb5⟩ := hbf
    clear hnd
    have E0 := Lib.hid (Elem.start (fp := f1 ++ f2 ++ f3 ++ f5) (wr := wr) (b := b) (p := o + k * 7) (cs := [.string z0, .slice A1 x1.length c1, .slice A2 x2.length c2, .slice A3 x3.length c3, .bool z4, .slice A5 x5.length c5, .string z6]) hbb (fun i v hi => by
     match i, hi with
     | 0, hi => injection hi with hi; subst hi; exact g0
     | 1, hi => injection hi with hi; subst hi; exact g1
     | 2, hi => injection hi with hi; subst hi; exact g2
     | 3, hi => injection hi with hi; subst hi; exact g3
     | 4, hi => injection hi with hi; subst hi; exact g4
     | 5, hi => injection hi with hi; subst hi; exact g5
     | 6, hi => injection hi with hi; subst hi; exact g6
     | j + 7, hi => simp at hi))
    have R0_1 := Lib.hid r1
    have R0_2 := Lib.hid r2
    have R0_3 := Lib.hid r3
    have R0_5 := Lib.hid r5
    clear r1 r2 r3 r5 hbb g0 g1 g2 g3 g4 g5 g6
    have MT0 := fun W => StrK.markText (l) (by omega) (by omega) W
    have MT0 := Lib.hid MT0
    have MK1 := fun W (h : (Rep.slice pat).rep true W f1 [.slice A1 x1.length c1] x1) => markPatternSU f1 A1 c1 (l + 1) x1 W h hn1 (by omega) (by omega)
    obtain ⟨m1, hm1⟩ : ∃ m : Nat, m = l + 1 + szs nPatternU x1 := ⟨_, rfl⟩
    unfold MarkedU at MK1
    simp only [← hm1] at MK1
    rw [show ((l + 1 : Nat) : Int) = (l : Int) + 1 by omega] at MK1
    have MK1 := Lib.hid MK1
    have MK2 := fun W (h : (Rep.slice sum).rep true W f2 [.slice A2 x2.length c2] x2) => markSumSU f2 A2 c2 (m1) x2 W h hn2 (by omega) (by omega)
    obtain ⟨m2, hm2⟩ : ∃ m : Nat, m = m1 + szs nSum x2 := ⟨_, rfl⟩
    unfold MarkedU at MK2
    simp only [← hm2] at MK2
    have MK2 := Lib.hid MK2
    have MK3 := fun W (h : (Rep.slice call).rep true W f3 [.slice A3 x3.length c3] x3) => markCallSU f3 A3 c3 (m2) x3 W h hn3 (by omega) (by omega)
    obtain ⟨m3, hm3⟩ : ∃ m : Nat, m = m2 + szs nCallU x3 := ⟨_, rfl⟩
    unfold MarkedU at MK3
    simp only [← hm3] at MK3
    have MK3 := Lib.hid MK3
    have hmb4 : decide (Int.tmod ((m3 : Int)) 3 = 0) = mb (m3) := by rw [mb_eq, show ((m3 : Nat) : Int) = (m3 : Int) by omega]
    have MK5 := fun W (h : (Rep.slice sum).rep true W f5 [.slice A5 x5.length c5] x5) => markSumSU f5 A5 c5 (m3 + 1) x5 W h hn5 (by omega) (by omega)
    obtain ⟨m5, hm5⟩ : ∃ m : Nat, m = m3 + 1 + szs nSum x5 := ⟨_, rfl⟩
    unfold MarkedU at MK5
    simp only [← hm5] at MK5
    rw [show ((m3 + 1 : Nat) : Int) = (m3 : Int) + 1 by omega] at MK5
    have MK5 := Lib.hid MK5
    have MT6 := fun W => StrK.markText (m5) (by omega) (by omega) W
    have MT6 := Lib.hid MT6
    have HNAT := Lib.hid (show ((m5 + 1 : Nat) : Int) = (m5 : Int) + 1 by omega)
    have HM1 := Lib.hid hm1
    have hr1 : 0 ≤ m1 ∧ m1 ≤ 1000000000 := by omega
    have HM2 := Lib.hid hm2
    have hr2 : 0 ≤ m2 ∧ m2 ≤ 1000000000 := by omega
    have HM3 := Lib.hid hm3
    have hr3 : 0 ≤ m3 ∧ m3 ≤ 1000000000 := by omega
    have HM5 := Lib.hid hm5
    have hr5 : 0 ≤ m5 ∧ m5 ≤ 1000000000 := by omega
    have hr : l ≤ 1000000000 := by omega
    clear hl1 hl9 hm1 hb1 hm2 hb2 hm3 hb3 hm5 hb5
    have lt_0 := E0.out.lt
    have g0_0 := E0.out.cell 0 _ rfl
    have y0_0 := E0.out.free HFF.out (i := 0) (by simp)
    have g1_0 := E0.out.cell 1 _ rfl
    have y1_0 := E0.out.free HFF.out (i := 1) (by simp)
    have g2_0 := E0.out.cell 2 _ rfl
    have y2_0 := E0.out.free HFF.out (i := 2) (by simp)
    have g3_0 := E0.out.cell 3 _ rfl
    have y3_0 := E0.out.free HFF.out (i := 3) (by simp)
    have g4_0 := E0.out.cell 4 _ rfl
    have y4_0 := E0.out.free HFF.out (i := 4) (by simp)
    have g5_0 := E0.out.cell 5 _ rfl
    have y5_0 := E0.out.free HFF.out (i := 5) (by simp)
    have g6_0 := E0.out.cell 6 _ rfl
    have y6_0 := E0.out.free HFF.out (i := 6) (by simp)
    simp only [Nat.add_zero] at g0_0 y0_0
    go_wp2_with fail
    refine (Calls.mono (MT0.out _)) ?_
    rintro e w1 ⟨rfl, d1⟩
    have E1 := Lib.hid (E0.out.below d1)
    have R1_1 := Lib.hid (Rep.below R0_1.out d1)
    have R1_2 := Lib.hid (Rep.below R0_2.out d1)
    have R1_3 := Lib.hid (Rep.below R0_3.out d1)
    have R1_5 := Lib.hid (Rep.below R0_5.out d1)
    clear d1 E0 R0_1 R0_2 R0_3 R0_5
    clear lt_0 g0_0 y0_0 g1_0 y1_0 g2_0 y2_0 g3_0 y3_0 g4_0 y4_0 g5_0 y5_0 g6_0 y6_0
    have lt_1 := E1.out.lt
    have g0_1 := E1.out.cell 0 _ rfl
    have y0_1 := E1.out.free HFF.out (i := 0) (by simp)
    have g1_1 := E1.out.cell 1 _ rfl
    have y1_1 := E1.out.free HFF.out (i := 1) (by simp)
    have g2_1 := E1.out.cell 2 _ rfl
    have y2_1 := E1.out.free HFF.out (i := 2) (by simp)
    have g3_1 := E1.out.cell 3 _ rfl
    have y3_1 := E1.out.free HFF.out (i := 3) (by simp)
    have g4_1 := E1.out.cell 4 _ rfl
    have y4_1 := E1.out.free HFF.out (i := 4) (by simp)
    have g5_1 := E1.out.cell 5 _ rfl
    have y5_1 := E1.out.free HFF.out (i := 5) (by simp)
    have g6_1 := E1.out.cell 6 _ rfl
    have y6_1 := E1.out.free HFF.out (i := 6) (by simp)
    simp only [Nat.add_zero] at g0_1 y0_1
    have E2 := Lib.hid (show Elem b (o + k * 7) (f1 ++ f2 ++ f3 ++ f5) wr (w1.setCell ⟨b, o + k * 7, none⟩ (.string (StrK.mt (l)))) [.string (StrK.mt (l)), .slice A1 x1.length c1, .slice A2 x2.length c2, .slice A3 x3.length c3, .bool z4, .slice A5 x5.length c5, .string z6] from E1.out.set (i := 0) (by simp) (.string (StrK.mt (l))))
    have R2_1 := Lib.hid (Rep.keepF R1_1.out (ModF.set w1 (p := ⟨b, o + k * 7, none⟩) (List.mem_singleton.2 rfl) (.string (StrK.mt (l)))) (fun x hx h9 => by rw [List.mem_singleton.1 h9] at hx; exact nb1 hx))
    have R2_2 := Lib.hid (Rep.keepF R1_2.out (ModF.set w1 (p := ⟨b, o + k * 7, none⟩) (List.mem_singleton.2 rfl) (.string (StrK.mt (l)))) (fun x hx h9 => by rw [List.mem_singleton.1 h9] at hx; exact nb2 hx))
    have R2_3 := Lib.hid (Rep.keepF R1_3.out (ModF.set w1 (p := ⟨b, o + k * 7, none⟩) (List.mem_singleton.2 rfl) (.string (StrK.mt (l)))) (fun x hx h9 => by rw [List.mem_singleton.1 h9] at hx; exact nb3 hx))
    have R2_5 := Lib.hid (Rep.keepF R1_5.out (ModF.set w1 (p := ⟨b, o + k * 7, none⟩) (List.mem_singleton.2 rfl) (.string (StrK.mt (l)))) (fun x hx h9 => by rw [List.mem_singleton.1 h9] at hx; exact nb5 hx))
    clear E1 R1_1 R1_2 R1_3 R1_5
    go_wp2_with fail
    refine (Calls.mono (MK1.out _ R2_1.out)) ?_
    rintro e w2 ⟨rfl, r1, d2⟩
    have E3 := Lib.hid (E2.out.mod d2 nb1 (fun x hx => by simp [hx]))
    have R3_1 := Lib.hid r1
    have R3_2 := Lib.hid (Rep.keepF R2_2.out d2 ap2_1)
    have R3_3 := Lib.hid (Rep.keepF R2_3.out d2 ap3_1)
    have R3_5 := Lib.hid (Rep.keepF R2_5.out d2 ap5_1)
    clear d2 r1 E2 R2_1 R2_2 R2_3 R2_5
    clear lt_1 g0_1 y0_1 g1_1 y1_1 g2_1 y2_1 g3_1 y3_1 g4_1 y4_1 g5_1 y5_1 g6_1 y6_1
    have lt_3 := E3.out.lt
    have g0_3 := E3.out.cell 0 _ rfl
    have y0_3 := E3.out.free HFF.out (i := 0) (by simp)
    have g1_3 := E3.out.cell 1 _ rfl
    have y1_3 := E3.out.free HFF.out (i := 1) (by simp)
    have g2_3 := E3.out.cell 2 _ rfl
    have y2_3 := E3.out.free HFF.out (i := 2) (by simp)
    have g3_3 := E3.out.cell 3 _ rfl
    have y3_3 := E3.out.free HFF.out (i := 3) (by simp)
    have g4_3 := E3.out.cell 4 _ rfl
    have y4_3 := E3.out.free HFF.out (i := 4) (by simp)
    have g5_3 := E3.out.cell 5 _ rfl
    have y5_3 := E3.out.free HFF.out (i := 5) (by simp)
    have g6_3 := E3.out.cell 6 _ rfl
    have y6_3 := E3.out.free HFF.out (i := 6) (by simp)
    simp only [Nat.add_zero] at g0_3 y0_3
    go_wp2_with fail
    refine (Calls.mono (MK2.out _ R3_2.out)) ?_
    rintro e w3 ⟨rfl, r2, d3⟩
    have E4 := Lib.hid (E3.out.mod d3 nb2 (fun x hx => by simp [hx]))
    have R4_1 := Lib.hid (Rep.keepF R3_1.out d3 ap1_2)
    have R4_2 := Lib.hid r2
    have R4_3 := Lib.hid (Rep.keepF R3_3.out d3 ap3_2)
    have R4_5 := Lib.hid (Rep.keepF R3_5.out d3 ap5_2)
    clear d3 r2 E3 R3_1 R3_2 R3_3 R3_5
    clear lt_3 g0_3 y0_3 g1_3 y1_3 g2_3 y2_3 g3_3 y3_3 g4_3 y4_3 g5_3 y5_3 g6_3 y6_3
    have lt_4 := E4.out.lt
    have g0_4 := E4.out.cell 0 _ rfl
    have y0_4 := E4.out.free HFF.out (i := 0) (by simp)
    have g1_4 := E4.out.cell 1 _ rfl
    have y1_4 := E4.out.free HFF.out (i := 1) (by simp)
    have g2_4 := E4.out.cell 2 _ rfl
    have y2_4 := E4.out.free HFF.out (i := 2) (by simp)
    have g3_4 := E4.out.cell 3 _ rfl
    have y3_4 := E4.out.free HFF.out (i := 3) (by simp)
    have g4_4 := E4.out.cell 4 _ rfl
    have y4_4 := E4.out.free HFF.out (i := 4) (by simp)
    have g5_4 := E4.out.cell 5 _ rfl
    have y5_4 := E4.out.free HFF.out (i := 5) (by simp)
    have g6_4 := E4.out.cell 6 _ rfl
    have y6_4 := E4.out.free HFF.out (i := 6) (by simp)
    simp only [Nat.add_zero] at g0_4 y0_4
    go_wp2_with fail
    refine (Calls.mono (MK3.out _ R4_3.out)) ?_
    rintro e w4 ⟨rfl, r3, d4⟩
    have E5 := Lib.hid (E4.out.mod d4 nb3 (fun x hx => by simp [hx]))
    have R5_1 := Lib.hid (Rep.keepF R4_1.out d4 ap1_3)
    have R5_2 := Lib.hid (Rep.keepF R4_2.out d4 ap2_3)
    have R5_3 := Lib.hid r3
    have R5_5 := Lib.hid (Rep.keepF R4_5.out d4 ap5_3)
    clear d4 r3 E4 R4_1 R4_2 R4_3 R4_5
    clear lt_4 g0_4 y0_4 g1_4 y1_4 g2_4 y2_4 g3_4 y3_4 g4_4 y4_4 g5_4 y5_4 g6_4 y6_4
    have lt_5 := E5.out.lt
    have g0_5 := E5.out.cell 0 _ rfl
    have y0_5 := E5.out.free HFF.out (i := 0) (by simp)
    have g1_5 := E5.out.cell 1 _ rfl
    have y1_5 := E5.out.free HFF.out (i := 1) (by simp)
    have g2_5 := E5.out.cell 2 _ rfl
    have y2_5 := E5.out.free HFF.out (i := 2) (by simp)
    have g3_5 := E5.out.cell 3 _ rfl
    have y3_5 := E5.out.free HFF.out (i := 3) (by simp)
    have g4_5 := E5.out.cell 4 _ rfl
    have y4_5 := E5.out.free HFF.out (i := 4) (by simp)
    have g5_5 := E5.out.cell 5 _ rfl
    have y5_5 := E5.out.free HFF.out (i := 5) (by simp)
    have g6_5 := E5.out.cell 6 _ rfl
    have y6_5 := E5.out.free HFF.out (i := 6) (by simp)
    simp only [Nat.add_zero] at g0_5 y0_5
    have E6 := Lib.hid (show Elem b (o + k * 7) (f1 ++ f2 ++ f3 ++ f5) wr (w4.setCell ⟨b, o + k * 7 + 4, none⟩ (.bool (mb (m3)))) [.string (StrK.mt (l)), .slice A1 x1.length c1, .slice A2 x2.length c2, .slice A3 x3.length c3, .bool (mb (m3)), .slice A5 x5.length c5, .string z6] from E5.out.set (i := 4) (by simp) (.bool (mb (m3))))
    have R6_1 := Lib.hid (Rep.keepF R5_1.out (ModF.set w4 (p := ⟨b, o + k * 7 + 4, none⟩) (List.mem_singleton.2 rfl) (.bool (mb (m3)))) (fun x hx h9 => by rw [List.mem_singleton.1 h9] at hx; exact nb1 hx))
    have R6_2 := Lib.hid (Rep.keepF R5_2.out (ModF.set w4 (p := ⟨b, o + k * 7 + 4, none⟩) (List.mem_singleton.2 rfl) (.bool (mb (m3)))) (fun x hx h9 => by rw [List.mem_singleton.1 h9] at hx; exact nb2 hx))
    have R6_3 := Lib.hid (Rep.keepF R5_3.out (ModF.set w4 (p := ⟨b, o + k * 7 + 4, none⟩) (List.mem_singleton.2 rfl) (.bool (mb (m3)))) (fun x hx h9 => by rw [List.mem_singleton.1 h9] at hx; exact nb3 hx))
    have R6_5 := Lib.hid (Rep.keepF R5_5.out (ModF.set w4 (p := ⟨b, o + k * 7 + 4, none⟩) (List.mem_singleton.2 rfl) (.bool (mb (m3)))) (fun x hx h9 => by rw [List.mem_singleton.1 h9] at hx; exact nb5 hx))
    clear E5 R5_1 R5_2 R5_3 R5_5
    go_wp2_with fail
    refine (Calls.mono (MK5.out _ R6_5.out)) ?_
    rintro e w6 ⟨rfl, r5, d6⟩
    have E7 := Lib.hid (E6.out.mod d6 nb5 (fun x hx => by simp [hx]))
    have R7_1 := Lib.hid (Rep.keepF R6_1.out d6 ap1_5)
    have R7_2 := Lib.hid (Rep.keepF R6_2.out d6 ap2_5)
    have R7_3 := Lib.hid (Rep.keepF R6_3.out d6 ap3_5)
    have R7_5 := Lib.hid r5
    clear d6 r5 E6 R6_1 R6_2 R6_3 R6_5
    clear lt_5 g0_5 y0_5 g1_5 y1_5 g2_5 y2_5 g3_5 y3_5 g4_5 y4_5 g5_5 y5_5 g6_5 y6_5
    have lt_7 := E7.out.lt
    have g0_7 := E7.out.cell 0 _ rfl
    have y0_7 := E7.out.free HFF.out (i := 0) (by simp)
    have g1_7 := E7.out.cell 1 _ rfl
    have y1_7 := E7.out.free HFF.out (i := 1) (by simp)
    have g2_7 := E7.out.cell 2 _ rfl
    have y2_7 := E7.out.free HFF.out (i := 2) (by simp)
    have g3_7 := E7.out.cell 3 _ rfl
    have y3_7 := E7.out.free HFF.out (i := 3) (by simp)
    have g4_7 := E7.out.cell 4 _ rfl
    have y4_7 := E7.out.free HFF.out (i := 4) (by simp)
    have g5_7 := E7.out.cell 5 _ rfl
    have y5_7 := E7.out.free HFF.out (i := 5) (by simp)
    have g6_7 := E7.out.cell 6 _ rfl
    have y6_7 := E7.out.free HFF.out (i := 6) (by simp)
    simp only [Nat.add_zero] at g0_7 y0_7
    go_wp2_with fail
    refine (Calls.mono (MT6.out _)) ?_
    rintro e w7 ⟨rfl, d7⟩
    have E8 := Lib.hid (E7.out.below d7)
    have R8_1 := Lib.hid (Rep.below R7_1.out d7)
    have R8_2 := Lib.hid (Rep.below R7_2.out d7)
    have R8_3 := Lib.hid (Rep.below R7_3.out d7)
    have R8_5 := Lib.hid (Rep.below R7_5.out d7)
    clear d7 E7 R7_1 R7_2 R7_3 R7_5
    clear lt_7 g0_7 y0_7 g1_7 y1_7 g2_7 y2_7 g3_7 y3_7 g4_7 y4_7 g5_7 y5_7 g6_7 y6_7
    have lt_8 := E8.out.lt
    have g0_8 := E8.out.cell 0 _ rfl
    have y0_8 := E8.out.free HFF.out (i := 0) (by simp)
    have g1_8 := E8.out.cell 1 _ rfl
    have y1_8 := E8.out.free HFF.out (i := 1) (by simp)
    have g2_8 := E8.out.cell 2 _ rfl
    have y2_8 := E8.out.free HFF.out (i := 2) (by simp)
    have g3_8 := E8.out.cell 3 _ rfl
    have y3_8 := E8.out.free HFF.out (i := 3) (by simp)
    have g4_8 := E8.out.cell 4 _ rfl
    have y4_8 := E8.out.free HFF.out (i := 4) (by simp)
    have g5_8 := E8.out.cell 5 _ rfl
    have y5_8 := E8.out.free HFF.out (i := 5) (by simp)
    have g6_8 := E8.out.cell 6 _ rfl
    have y6_8 := E8.out.free HFF.out (i := 6) (by simp)
    simp only [Nat.add_zero] at g0_8 y0_8
    have E9 := Lib.hid (show Elem b (o + k * 7) (f1 ++ f2 ++ f3 ++ f5) wr (w7.setCell ⟨b, o + k * 7 + 6, none⟩ (.string (StrK.mt (m5)))) [.string (StrK.mt (l)), .slice A1 x1.length c1, .slice A2 x2.length c2, .slice A3 x3.length c3, .bool (mb (m3)), .slice A5 x5.length c5, .string (StrK.mt (m5))] from E8.out.set (i := 6) (by simp) (.string (StrK.mt (m5))))
    have R9_1 := Lib.hid (Rep.keepF R8_1.out (ModF.set w7 (p := ⟨b, o + k * 7 + 6, none⟩) (List.mem_singleton.2 rfl) (.string (StrK.mt (m5)))) (fun x hx h9 => by rw [List.mem_singleton.1 h9] at hx; exact nb1 hx))
    have R9_2 := Lib.hid (Rep.keepF R8_2.out (ModF.set w7 (p := ⟨b, o + k * 7 + 6, none⟩) (List.mem_singleton.2 rfl) (.string (StrK.mt (m5)))) (fun x hx h9 => by rw [List.mem_singleton.1 h9] at hx; exact nb2 hx))
    have R9_3 := Lib.hid (Rep.keepF R8_3.out (ModF.set w7 (p := ⟨b, o + k * 7 + 6, none⟩) (List.mem_singleton.2 rfl) (.string (StrK.mt (m5)))) (fun x hx h9 => by rw [List.mem_singleton.1 h9] at hx; exact nb3 hx))
    have R9_5 := Lib.hid (Rep.keepF R8_5.out (ModF.set w7 (p := ⟨b, o + k * 7 + 6, none⟩) (List.mem_singleton.2 rfl) (.string (StrK.mt (m5)))) (fun x hx h9 => by rw [List.mem_singleton.1 h9] at hx; exact nb5 hx))
    clear E8 R8_1 R8_2 R8_3 R8_5
    have HN : Marking rule mkRuleU nRuleU fp w xs (some ⟨b, o, none⟩) k0 (.int .i64 ((m5 : Int) + 1)) (.int .i64 ((k : Int) + 1)) (w7.setCell ⟨b, o + k * 7 + 6, none⟩ (.string (StrK.mt (m5)))) := by
     have hE := E9.out
     have hnat := HNAT.out
     have hm1 := HM1.out
     have hm2 := HM2.out
     have hm3 := HM3.out
     have hm5 := HM5.out
     have hR1 := R9_1.out
     have hR2 := R9_2.out
     have hR3 := R9_3.out
     have hR5 := R9_5.out
     have hN := HNX.out (w7.setCell ⟨b, o + k * 7 + 6, none⟩ (.string (StrK.mt (m5)))) [.string (StrK.mt (l)), .slice A1 x1.length c1, .slice A2 x2.length c2, .slice A3 x3.length c3, .bool (mb (m3)), .slice A5 x5.length c5, .string (StrK.mt (m5))] (by
      simp only [mkRuleU]
      have t1 := hR1
      have t2 := hR2
      have t3 := hR3
      have t5 := hR5
      rw [← mks_len (mk := mkPatternU) (sz := nPatternU) x1 (l + 1)] at t1
      rw [← mks_len (mk := mkSum) (sz := nSum) x2 (m1)] at t2
      rw [← mks_len (mk := mkCallU) (sz := nCallU) x3 (m2)] at t3
      rw [← mks_len (mk := mkSum) (sz := nSum) x5 (m3 + 1)] at t5
      have hh := rule_close (q := true) (w := (w7.setCell ⟨b, o + k * 7 + 6, none⟩ (.string (StrK.mt (m5))))) (StrK.mt (l)) (mb (m3)) (StrK.mt (m5)) t1 t2 t3 t5
      simp only [mks_len] at hh
      subst hm5
      subst hm3
      subst hm2
      subst hm1
      exact hh) hE.modF (fun j hj => hE.other (o + j) (by have hj : j < k * 7 ∨ k * 7 + 7 ≤ j := hj; simp only [List.length_cons, List.length_nil]; omega)) (fun i hi => by
      have hi : i < 7 := hi
      match i, hi with
      | 0, _ => exact hE.cell 0 _ rfl
      | 1, _ => exact hE.cell 1 _ rfl
      | 2, _ => exact hE.cell 2 _ rfl
      | 3, _ => exact hE.cell 3 _ rfl
      | 4, _ => exact hE.cell 4 _ rfl
      | 5, _ => exact hE.cell 5 _ rfl
      | 6, _ => exact hE.cell 6 _ rfl
      | j + 7, hi => omega) (fun j => hE.frozen (o + j))
     rw [show ((l + nRuleU (z0, x1, x2, x3, (z4, x5, z6)) : Nat) : Int) = (m5 : Int) + 1 by simp only [nRuleU]; omega, show ((k + 1 : Nat) : Int) = (k : Int) + 1 by omega] at hN
     exact hN
    have HN := Lib.hid HN
    clear E9 R9_1 R9_2 R9_3 R9_5 HNX
    go_wp2
    go_roundw
    case rel => exact HN.out
    case measure => simp [intOf]; omega
   ·obtain rfl : k = xs.length := by omega
    obtain ⟨h1, h2, h3⟩ := marking_end HC.out HNE.out hrel
    have F := Lib.hid (show MarkedU rule mkRuleU nRuleU fp w A c k0 xs (.returned (.int .i64 l)) wr from ⟨by rw [h3]; simp, h1, h2⟩)
    clear h1 h2 h3 hrel
    go_wp2
    go_ret
    exact F.out
end Mem
end Go.Proofs.YtbbllkhmenpnlaaGreat
