import Derived.Test.YtbbllkhmenpnlaaGreatRepUni
import Derived.Test.YtbbllkhmenpnlaaGreatUFunction
import Derived.Test.YtbbllkhmenpnlaaGreatURule
import Derived.Deep.RegionLaw
import Derived.Deep.RegionHeld3
/-
  The laws' helpers on Program: copies, sizes, comparison, marks (made by tools/ukit.py).
-/
namespace Go.Proofs.YtbbllkhmenpnlaaGreat
open Go.RowKit
namespace Mem
open RowK

abbrev ProgramT := List FunctionT × List RuleT
def prg : Rep ProgramT := Rep.prod (Rep.slice fn) (Rep.slice rule)
theorem prg_open {q : Bool} {w : World} {fp : List Nat} {cs : List Value} {p : ProgramT} (h : prg.rep q w fp cs p) : ∃ (A0 : Option Addr) (c0 : Nat) (f0 : List Nat) (A1 : Option Addr) (c1 : Nat) (f1 : List Nat), fp = f0 ++ f1 ∧ cs = [.slice A0 p.1.length c0, .slice A1 p.2.length c1] ∧ (Rep.slice fn).rep q w f0 [.slice A0 p.1.length c0] p.1 ∧ (Rep.slice rule).rep q w f1 [.slice A1 p.2.length c1] p.2 := by
 obtain ⟨g0, g0', d0, d0', rfl, rfl, k0, h'⟩ := h
 have r0 := k0
 obtain ⟨A0, c0, rfl, _⟩ := k0
 have r1 := h'
 obtain ⟨A1, c1, rfl, _⟩ := h'
 exact ⟨A0, c0, _, A1, c1, _, by simp, rfl, r0, r1⟩
theorem prg_close {q : Bool} {w : World} {A0 : Option Addr} {c0 : Nat} {f0 : List Nat} {x0 : List FunctionT} {A1 : Option Addr} {c1 : Nat} {f1 : List Nat} {x1 : List RuleT}  (h0 : (Rep.slice fn).rep q w f0 [.slice A0 x0.length c0] x0) (h1 : (Rep.slice rule).rep q w f1 [.slice A1 x1.length c1] x1) : prg.rep q w (f0 ++ f1) [.slice A0 x0.length c0, .slice A1 x1.length c1] (x0, x1) := by
 have e : (f0 ++ f1 : List Nat) = f0 ++ (f1) := by simp
 rw [e]
 exact (show prg.rep q w (f0 ++ (f1)) ([.slice A0 x0.length c0] ++ ([.slice A1 x1.length c1])) _ from ⟨_, _, _, _, rfl, rfl, h0, h1⟩)
theorem prg_parts {q : Bool} {w : World} {fp : List Nat} {A0 : Option Addr} {c0 : Nat} {x0 : List FunctionT} {A1 : Option Addr} {c1 : Nat} {x1 : List RuleT}  (h : prg.rep q w fp [.slice A0 x0.length c0, .slice A1 x1.length c1] (x0, x1)) : ∃ f0 f1, fp = f0 ++ f1 ∧ (Rep.slice fn).rep q w f0 [.slice A0 x0.length c0] x0 ∧ (Rep.slice rule).rep q w f1 [.slice A1 x1.length c1] x1 := by
 obtain ⟨B0, e0, f0, B1, e1, f1, hf, hc, r0, r1⟩ := prg_open h
 injection hc with hc0 hc
 injection hc with hc1 hc
 injection hc0 with ha0 _ hb0
 subst ha0; subst hb0
 injection hc1 with ha1 _ hb1
 subst ha1; subst hb1
 exact ⟨f0, f1, hf, r0, r1⟩
def szProgramU (x : ProgramT) : Nat := (x.1.length + szs szFunctionU x.1) + (x.2.length + szs szRuleU x.2)
def WfProgramU (x : ProgramT) : Prop := x.1.length ≤ 9223372036854775807 ∧ (∀ e ∈ x.1, WfFunctionU e) ∧ x.2.length ≤ 9223372036854775807 ∧ (∀ e ∈ x.2, WfRuleU e)
def mvProgram (k : Nat) (x : ProgramT) : ProgramT := (mks mkFunctionU nFunctionU (k) x.1, mks mkRuleU nRuleU (k + szs nFunctionU x.1) x.2)
def nvProgram (x : ProgramT) : Nat := szs nFunctionU x.1 + szs nRuleU x.2
theorem nvProgram_le (x : ProgramT) : nvProgram x ≤ 8 * szProgramU x := by
 have h0 := szs_bound nFunctionU_le x.1
 have h1 := szs_bound nRuleU_le x.2
 unfold nvProgram szProgramU
 omega
theorem infoProgram : (Tryz.prog.info? 27).map (fun i => (i.zero, i.size, i.bytes)) = some (some (.agg #[.slice none 0 0, .slice none 0 0]), 2, 48) := by kernel_rfl
set_option maxHeartbeats 4000000 in
set_option maxRecDepth 100000 in
theorem copyProgramU (q0 : Bool) (f0 : List Nat) (q1 : Bool) (f1 : List Nat) (A0 : Option Addr) (c0 : Nat) (x0 : List FunctionT) (A1 : Option Addr) (c1 : Nat) (x1 : List RuleT) (w : World) (h0 : (Rep.slice fn).rep q0 w f0 [.slice A0 x0.length c0] x0) (h1 : (Rep.slice rule).rep q1 w f1 [.slice A1 x1.length c1] x1) (hl : szProgramU (x0, x1) ≤ 100000000) :
  Calls Tryz.prog 28 #[.agg #[.slice A0 x0.length c0, .slice A1 x1.length c1]] w fun e w' => ∃ B0 B1, e = .returned (.agg #[.slice B0 x0.length x0.length, .slice B1 x1.length x1.length]) ∧ OwnR prg w.heap.size w'.heap.size w' [.slice B0 x0.length x0.length, .slice B1 x1.length x1.length] (x0, x1) ∧ Below w.heap.size w w' := by
 simp only [szProgramU] at hl
 have CP0 := Lib.hid (fun W (h : Below w.heap.size w W) => copyFunctionSU q0 f0 A0 c0 x0 W (Rep.below h0 h) (by omega))
 have CP1 := Lib.hid (fun W (h : Below w.heap.size w W) => copyRuleSU q1 f1 A1 c1 x1 W (Rep.below h1 h) (by omega))
 clear hl h0 h1
 go_enter Tryz.func28, Tryz.ntmps28
 go_wp2_with fail
 refine (Calls.mono (CP0.out _ (by repeat (first | with_reducible exact Below.refl _ _ | with_reducible exact Below.refl _ _ | refine Below.setCell ?_ (by first | omega | (simp; done) | (simp; omega)) _ | refine Below.alloc ?_ (by first | omega | (simp; done) | (simp; omega)) _)))) ?_
 rintro e w0 ⟨D0, rfl, o0, b0⟩
 have B0 : Below w.heap.size w w0 := below_step (by repeat (first | with_reducible exact Below.refl _ _ | with_reducible exact Below.refl _ _ | refine Below.setCell ?_ (by first | omega | (simp; done) | (simp; omega)) _ | refine Below.alloc ?_ (by first | omega | (simp; done) | (simp; omega)) _)) b0
 have hz0 := b0.size
 simp only [World.size_alloc] at hz0 o0
 have VA0 := (((Lvar.new w #[Value.slice A0 x0.length c0, Value.slice A1 x1.length c1] 56).alloc (Obj.cells #[Value.slice none 0 0, Value.slice none 0 0] 27)).alloc (Obj.cells #[Value.slice none 0 0, Value.slice none 0 0] 27)).below b0
 have VB0 := ((Lvar.new (w.alloc (Obj.cells #[Value.slice A0 x0.length c0, Value.slice A1 x1.length c1] 56)) #[Value.slice none 0 0, Value.slice none 0 0] 27).alloc (Obj.cells #[Value.slice none 0 0, Value.slice none 0 0] 27)).below b0
 have VC0 := (Lvar.new ((w.alloc (Obj.cells #[Value.slice A0 x0.length c0, Value.slice A1 x1.length c1] 56)).alloc (Obj.cells #[Value.slice none 0 0, Value.slice none 0 0] 27)) #[Value.slice none 0 0, Value.slice none 0 0] 27).below b0
 simp only [World.size_alloc] at VB0 VC0
 have cA0_0 := VA0.cell 0 _ rfl
 have cA0_1 := VA0.cell 1 _ rfl
 have cB0_0 := VB0.cell 0 _ rfl
 have cB0_1 := VB0.cell 1 _ rfl
 have yB0_0 := VB0.frozen 0
 have yB0_1 := VB0.frozen 1
 have cC0_0 := VC0.cell 0 _ rfl
 have cC0_1 := VC0.cell 1 _ rfl
 have yC0_0 := VC0.frozen 0
 have yC0_1 := VC0.frozen 1
 have VA0 := Lib.hid VA0
 have VB0 := Lib.hid VB0
 have VC0 := Lib.hid VC0
 clear b0
 go_wp2_with fail
 refine (Calls.mono (CP1.out _ (by repeat (first | with_reducible exact B0 | with_reducible exact Below.refl _ _ | refine Below.setCell ?_ (by first | omega | (simp; done) | (simp; omega)) _ | refine Below.alloc ?_ (by first | omega | (simp; done) | (simp; omega)) _)))) ?_
 rintro e w1 ⟨D1, rfl, o1, b1⟩
 have B1 : Below w.heap.size w w1 := below_step (by repeat (first | with_reducible exact B0 | with_reducible exact Below.refl _ _ | refine Below.setCell ?_ (by first | omega | (simp; done) | (simp; omega)) _ | refine Below.alloc ?_ (by first | omega | (simp; done) | (simp; omega)) _)) b1
 have hz1 := b1.size
 simp only [World.size_setCell] at hz1 o1
 have VA1 := (VA0.out.other (p := ⟨w.heap.size + 1 + 1, 0, none⟩) (by first | omega | (simp; done) | (simp; omega)) (Value.slice D0 x0.length x0.length)).below b1
 have VB1 := (VB0.out.other (p := ⟨w.heap.size + 1 + 1, 0, none⟩) (by first | omega | (simp; done) | (simp; omega)) (Value.slice D0 x0.length x0.length)).below b1
 have VC1 : Lvar w1 (w.heap.size + 1 + 1) #[Value.slice D0 x0.length x0.length, Value.slice none 0 0] := (VC0.out.set 0 (Value.slice D0 x0.length x0.length)).below b1
 have o0 := OwnR.below (OwnR.keep o0 (show Mod w.heap.size (w.heap.size + 3) w0 _ from (by repeat (first | with_reducible exact Mod.refl _ _ _ | refine Mod.trans ?_ (Mod.set _ (by first | omega | (simp; done) | (simp; omega)) (by first | omega | (simp; done) | (simp; omega)) _)))) (Or.inr (by omega))) b1
 clear cA0_0 cA0_1 cB0_0 cB0_1 yB0_0 yB0_1 cC0_0 cC0_1 yC0_0 yC0_1
 have cA1_0 := VA1.cell 0 _ rfl
 have cA1_1 := VA1.cell 1 _ rfl
 have cB1_0 := VB1.cell 0 _ rfl
 have cB1_1 := VB1.cell 1 _ rfl
 have yB1_0 := VB1.frozen 0
 have yB1_1 := VB1.frozen 1
 have cC1_0 := VC1.cell 0 _ rfl
 have cC1_1 := VC1.cell 1 _ rfl
 have yC1_0 := VC1.frozen 0
 have yC1_1 := VC1.frozen 1
 have VA1 := Lib.hid VA1
 have VB1 := Lib.hid VB1
 have VC1 := Lib.hid VC1
 clear VA0 VB0 VC0
 clear b1
 go_wp2_with fail
 obtain ⟨T9, hT9⟩ := (show Lvar _ (w.heap.size + 1) #[Value.slice D0 x0.length x0.length, Value.slice D1 x1.length x1.length] from (((VB1.out.other (p := ⟨w.heap.size + 1 + 1, 1, none⟩) (by first | omega | (simp; done) | (simp; omega)) (Value.slice D1 x1.length x1.length)).set 0 (Value.slice D0 x0.length x0.length)).set 1 (Value.slice D1 x1.length x1.length)))
 obtain ⟨i9, hi9, _, hs9, _⟩ := info_parts infoProgram
 refine bodyPost_ret (results_cell_row rfl _ _ (w.heap.size + 1) T9 #[.slice D0 x0.length x0.length, .slice D1 x1.length x1.length] _ _ rfl hT9 Tryz.underlying27 rfl (by rw [hi9, Option.map_some, hs9]; rfl)) rfl ?_
 have key : ∀ {u : World}, Mod w.heap.size (w.heap.size + 3) w1 u → OwnR prg w.heap.size u.heap.size u [.slice D0 x0.length x0.length, .slice D1 x1.length x1.length] (x0, x1) ∧ Below w.heap.size w u := fun {u} hm => by
  have hs := hm.size
  have o0 := OwnR.keep o0 hm (Or.inr (by omega))
  have o1 := OwnR.keep o1 hm (Or.inr (by omega))
  exact ⟨(OwnR.prod (mid := w0.heap.size) (o0.wider (lo' := w.heap.size) (hi' := w0.heap.size) (by omega) (by omega) (by omega)) (o1.wider (by omega) (by omega) (Nat.le_refl _)) (by omega) (by omega)), below_mod B1 hm (Nat.le_refl _) B1.size⟩
 refine ⟨D0, D1, rfl, key ?_⟩
 repeat (first | with_reducible exact Mod.refl _ _ _ | refine Mod.trans ?_ (Mod.set _ (by first | omega | (simp; done) | (simp; omega)) (by first | omega | (simp; done) | (simp; omega)) _))
set_option maxHeartbeats 4000000 in
set_option maxRecDepth 100000 in
theorem sizeProgramU (q0 : Bool) (f0 : List Nat) (q1 : Bool) (f1 : List Nat) (A0 : Option Addr) (c0 : Nat) (x0 : List FunctionT) (A1 : Option Addr) (c1 : Nat) (x1 : List RuleT) (L : Nat) (w : World) (h0 : (Rep.slice fn).rep q0 w f0 [.slice A0 x0.length c0] x0) (h1 : (Rep.slice rule).rep q1 w f1 [.slice A1 x1.length c1] x1) (hL : L ≤ 1000000000) (hs : WfProgramU (x0, x1)) :
  Calls Tryz.prog 27 #[.agg #[.slice A0 x0.length c0, .slice A1 x1.length c1], .int .i64 L] w fun e w' => e = .returned (.int .i64 (IntK.leftOf L (szProgramU (x0, x1)))) ∧ Below w.heap.size w w' := by
 simp only [WfProgramU] at hs
 obtain ⟨hs0a, hs0b, hs1a, hs1b⟩ := hs
 have B0 := Lib.hid ((Below.refl w.heap.size w).alloc (Nat.le_refl _) (Obj.cells #[Value.slice A0 x0.length c0, Value.slice A1 x1.length c1] 56))
 have V0 := Lib.hid (Lvar.new w #[Value.slice A0 x0.length c0, Value.slice A1 x1.length c1] 56)
 have SZ0 := fun W (h : Below w.heap.size w W) => sizeFunctionSU q0 f0 A0 c0 L x0 W (Rep.below h0 h) (by omega) hs0a hs0b
 unfold IntK.leftOf at SZ0
 by_cases g0 : (x0.length + szs szFunctionU x0) ≤ L
 ·obtain ⟨m0, hm0⟩ : ∃ m : Nat, m = L - (x0.length + szs szFunctionU x0) := ⟨_, rfl⟩
  simp only [if_pos g0, show ((L : Nat) : Int) - (((x0.length + szs szFunctionU x0) : Nat) : Int) = (m0 : Int) by omega] at SZ0
  have hd0 : decide ((m0 : Int) < 0) = false := decide_eq_false (by omega)
  have HM0 := Lib.hid (show m0 + (x0.length + szs szFunctionU x0) = L by omega)
  have SZ0 := Lib.hid SZ0
  have hL0 : m0 ≤ 1000000000 := by omega
  clear g0 hm0
  have SZ1 := fun W (h : Below w.heap.size w W) => sizeRuleSU q1 f1 A1 c1 m0 x1 W (Rep.below h1 h) (by omega) hs1a hs1b
  unfold IntK.leftOf at SZ1
  by_cases g1 : (x1.length + szs szRuleU x1) ≤ m0
  ·obtain ⟨m1, hm1⟩ : ∃ m : Nat, m = m0 - (x1.length + szs szRuleU x1) := ⟨_, rfl⟩
   simp only [if_pos g1, show ((m0 : Nat) : Int) - (((x1.length + szs szRuleU x1) : Nat) : Int) = (m1 : Int) by omega] at SZ1
   have hd1 : decide ((m1 : Int) < 0) = false := decide_eq_false (by omega)
   have HM1 := Lib.hid (show m1 + (x1.length + szs szRuleU x1) = m0 by omega)
   have SZ1 := Lib.hid SZ1
   have hL1 : m1 ≤ 1000000000 := by omega
   clear g1 hm1
   have HR := Lib.hid (show IntK.leftOf L (szProgramU (x0, x1)) = (m1 : Int) by simp only [szProgramU]; unfold IntK.leftOf; have := HM0.out; have := HM1.out; rw [if_pos (by omega)]; omega)
   clear hs0a hs0b hs1a hs1b h0 h1
   go_enter Tryz.func27, Tryz.ntmps27
   go_wp2_with fail
   refine (Calls.mono (SZ0.out _ B0.out)) ?_
   rintro e w1 ⟨rfl, b1⟩
   have B1 := Lib.hid (below_step B0.out b1)
   have V1 := Lib.hid (V0.out.below b1)
   clear b1
   have v1_0 := V1.out.cell 0 _ rfl
   have v1_1 := V1.out.cell 1 _ rfl
   go_wp2_with fail
   refine (Calls.mono (SZ1.out _ B1.out)) ?_
   rintro e w2 ⟨rfl, b2⟩
   have B2 := Lib.hid (below_step B1.out b2)
   have V2 := Lib.hid (V1.out.below b2)
   clear b2
   have v2_0 := V2.out.cell 0 _ rfl
   have v2_1 := V2.out.cell 1 _ rfl
   clear v1_0 v1_1
   go_wp2
   go_ret
   exact ⟨by rw [HR.out]; rfl, B2.out⟩
  ·have HM := Lib.hid g1
   simp only [if_neg g1] at SZ1
   have SZ1 := Lib.hid SZ1
   clear g1
   have HR := Lib.hid (show IntK.leftOf L (szProgramU (x0, x1)) = -1 by simp only [szProgramU]; unfold IntK.leftOf; have := HM0.out; have := HM.out; rw [if_neg (by omega)])
   clear hs0a hs0b hs1a hs1b h0 h1
   go_enter Tryz.func27, Tryz.ntmps27
   go_wp2_with fail
   refine (Calls.mono (SZ0.out _ B0.out)) ?_
   rintro e w1 ⟨rfl, b1⟩
   have B1 := Lib.hid (below_step B0.out b1)
   have V1 := Lib.hid (V0.out.below b1)
   clear b1
   have v1_0 := V1.out.cell 0 _ rfl
   have v1_1 := V1.out.cell 1 _ rfl
   go_wp2_with fail
   refine (Calls.mono (SZ1.out _ B1.out)) ?_
   rintro e w2 ⟨rfl, b2⟩
   have B2 := Lib.hid (below_step B1.out b2)
   have V2 := Lib.hid (V1.out.below b2)
   clear b2
   have v2_0 := V2.out.cell 0 _ rfl
   have v2_1 := V2.out.cell 1 _ rfl
   clear v1_0 v1_1
   go_wp2
   go_ret
   exact ⟨by rw [HR.out]; rfl, B2.out⟩
 ·have HM := Lib.hid g0
  simp only [if_neg g0] at SZ0
  have SZ0 := Lib.hid SZ0
  clear g0
  have HR := Lib.hid (show IntK.leftOf L (szProgramU (x0, x1)) = -1 by simp only [szProgramU]; unfold IntK.leftOf; have := HM.out; rw [if_neg (by omega)])
  clear hs0a hs0b hs1a hs1b h0 h1
  go_enter Tryz.func27, Tryz.ntmps27
  go_wp2_with fail
  refine (Calls.mono (SZ0.out _ B0.out)) ?_
  rintro e w1 ⟨rfl, b1⟩
  have B1 := Lib.hid (below_step B0.out b1)
  have V1 := Lib.hid (V0.out.below b1)
  clear b1
  have v1_0 := V1.out.cell 0 _ rfl
  have v1_1 := V1.out.cell 1 _ rfl
  go_wp2
  go_ret
  exact ⟨by rw [HR.out]; rfl, B1.out⟩
set_option maxHeartbeats 4000000 in
set_option maxRecDepth 100000 in
theorem eqProgramU (q0 p0 : Bool) (f0 g0 : List Nat) (q1 p1 : Bool) (f1 g1 : List Nat) (A0 : Option Addr) (c0 : Nat) (x0 : List FunctionT) (A1 : Option Addr) (c1 : Nat) (x1 : List RuleT) (B0 : Option Addr) (d0 : Nat) (B1 : Option Addr) (d1 : Nat) (w : World) (h0 : (Rep.slice fn).rep q0 w f0 [.slice A0 x0.length c0] x0) (h1 : (Rep.slice rule).rep q1 w f1 [.slice A1 x1.length c1] x1) (k0 : (Rep.slice fn).rep p0 w g0 [.slice B0 x0.length d0] x0) (k1 : (Rep.slice rule).rep p1 w g1 [.slice B1 x1.length d1] x1) (hl : szProgramU (x0, x1) ≤ 100000000) :
  Calls Tryz.prog 30 #[.agg #[.slice A0 x0.length c0, .slice A1 x1.length c1], .agg #[.slice B0 x0.length d0, .slice B1 x1.length d1]] w fun e w' => e = .returned (.bool true) ∧ Below w.heap.size w w' := by
 simp only [szProgramU] at hl
 have EQ0 := Lib.hid (fun W (h : Below w.heap.size w W) => eqFunctionSU q0 p0 f0 g0 A0 B0 c0 d0 x0 W (Rep.below h0 h) (Rep.below k0 h) (by omega))
 have EQ1 := Lib.hid (fun W (h : Below w.heap.size w W) => eqRuleSU q1 p1 f1 g1 A1 B1 c1 d1 x1 W (Rep.below h1 h) (Rep.below k1 h) (by omega))
 have BB0 := Lib.hid (((Below.refl w.heap.size w).alloc (Nat.le_refl _) (Obj.cells #[Value.slice A0 x0.length c0, Value.slice A1 x1.length c1] 27)).alloc (by simp) (Obj.cells #[Value.slice B0 x0.length d0, Value.slice B1 x1.length d1] 27))
 have V0 := Lib.hid ((Lvar.new w #[Value.slice A0 x0.length c0, Value.slice A1 x1.length c1] 27).alloc (Obj.cells #[Value.slice B0 x0.length d0, Value.slice B1 x1.length d1] 27))
 have U0 := Lib.hid (Lvar.new (w.alloc (Obj.cells #[Value.slice A0 x0.length c0, Value.slice A1 x1.length c1] 27)) #[Value.slice B0 x0.length d0, Value.slice B1 x1.length d1] 27)
 simp only [World.size_alloc] at U0
 clear hl h0 k0 h1 k1
 go_enter Tryz.func30, Tryz.ntmps30
 go_wp2_with fail
 refine (Calls.mono (EQ0.out _ ?_)) ?_
 ·first | exact BB0.out | exact BB0.out.drew | exact below_drewN BB0.out _
 rintro e w1 ⟨rfl, b1⟩
 have BB1 := Lib.hid (show Below w.heap.size w w1 from by first | exact BB0.out.trans (b1.mono BB0.out.size) | exact BB0.out.drew.trans (b1.mono BB0.out.size) | exact (below_drewN BB0.out _).trans (b1.mono BB0.out.size))
 have V1 := Lib.hid (show Lvar w1 _ _ from by first | exact V0.out.below b1 | exact (V0.out.below (Below.refl _ _).drew).below b1)
 have v1_0 := V1.out.cell 0 _ rfl
 have v1_1 := V1.out.cell 1 _ rfl
 have U1 := Lib.hid (show Lvar w1 _ _ from by first | exact U0.out.below b1 | exact (U0.out.below (Below.refl _ _).drew).below b1)
 have u1_0 := U1.out.cell 0 _ rfl
 have u1_1 := U1.out.cell 1 _ rfl
 clear b1
 go_wp2_with fail
 refine (Calls.mono (EQ1.out _ ?_)) ?_
 ·first | exact BB1.out | exact BB1.out.drew | exact below_drewN BB1.out _
 rintro e w2 ⟨rfl, b2⟩
 have BB2 := Lib.hid (show Below w.heap.size w w2 from by first | exact BB1.out.trans (b2.mono BB1.out.size) | exact BB1.out.drew.trans (b2.mono BB1.out.size) | exact (below_drewN BB1.out _).trans (b2.mono BB1.out.size))
 have V2 := Lib.hid (show Lvar w2 _ _ from by first | exact V1.out.below b2 | exact (V1.out.below (Below.refl _ _).drew).below b2)
 have v2_0 := V2.out.cell 0 _ rfl
 have v2_1 := V2.out.cell 1 _ rfl
 clear v1_0 v1_1
 have U2 := Lib.hid (show Lvar w2 _ _ from by first | exact U1.out.below b2 | exact (U1.out.below (Below.refl _ _).drew).below b2)
 have u2_0 := U2.out.cell 0 _ rfl
 have u2_1 := U2.out.cell 1 _ rfl
 clear u1_0 u1_1
 clear b2
 go_wp2
 go_ret
 exact ⟨rfl, BB2.out⟩
set_option maxHeartbeats 4000000 in
set_option maxRecDepth 100000 in
theorem markFProgramU (fp : List Nat) (A0 : Option Addr) (c0 : Nat) (x0 : List FunctionT) (A1 : Option Addr) (c1 : Nat) (x1 : List RuleT) (k0 : Nat) (w : World) (h : prg.rep true w fp [.slice A0 x0.length c0, .slice A1 x1.length c1] (x0, x1)) (hn : fp.Nodup) (hk1 : 1 ≤ k0) (hk : k0 + 8 * szProgramU (x0, x1) ≤ 1000000000) :
  Calls Tryz.prog 31 #[.agg #[.slice A0 x0.length c0, .slice A1 x1.length c1], .int .i64 k0] w fun e w' => e = .returned (.int .i64 ((k0 + nvProgram (x0, x1) : Nat) : Int)) ∧ prg.rep true w' fp [.slice A0 x0.length c0, .slice A1 x1.length c1] (mvProgram k0 (x0, x1)) ∧ ModF fp w w' := by
 obtain ⟨f0, f1, e9, h0, h1⟩ := prg_parts h
 have e9 := e9.symm
 subst e9
 obtain ⟨hq1, hn1, pa1, pb1⟩ := apart2 hn
 have hn0 := hq1
 have ap0_1 : ∀ b ∈ f0, b ∉ f1 := fun b hb => pa1 b (by simp [hb])
 have ap1_0 : ∀ b ∈ f1, b ∉ f0 := fun b hb h => pb1 b hb (by simp [h])
 clear hq1 pa1 pb1
 simp only [szProgramU] at hk
 have hb0 := szs_bound nFunctionU_le x0
 have hb1 := szs_bound nRuleU_le x1
 obtain ⟨m0, hm0⟩ : ∃ m : Nat, m = k0 + szs nFunctionU x0 := ⟨_, rfl⟩
 obtain ⟨m1, hm1⟩ : ∃ m : Nat, m = m0 + szs nRuleU x1 := ⟨_, rfl⟩
 have MK0 := Lib.hid (fun W (h : (Rep.slice fn).rep true W f0 [.slice A0 x0.length c0] x0) => markFunctionSU f0 A0 c0 k0 x0 W h hn0 (by omega) (by omega))
 have MK1 := Lib.hid (fun W (h : (Rep.slice rule).rep true W f1 [.slice A1 x1.length c1] x1) => markRuleSU f1 A1 c1 m0 x1 W h hn1 (by omega) (by omega))
 have H0 := Lib.hid h0
 have H1 := Lib.hid h1
 have HB := Lib.hid (show m0 = k0 + szs nFunctionU x0 ∧ m1 = m0 + szs nRuleU x1 from ⟨hm0, hm1⟩)
 unfold MarkedU at MK0
 simp only [← hm0] at MK0
 unfold MarkedU at MK1
 simp only [← hm1] at MK1
 have B0 := Lib.hid ((Below.refl w.heap.size w).alloc (Nat.le_refl _) (Obj.cells #[Value.slice A0 x0.length c0, Value.slice A1 x1.length c1] 27))
 have V0 := Lib.hid (Lvar.new w #[Value.slice A0 x0.length c0, Value.slice A1 x1.length c1] 27)
 have L0 := Lib.hid (show ∀ b ∈ f0 ++ f1, b < w.heap.size from prg.lt h)
 clear h hk h0 h1 hb0 hb1 hm0 hm1
 go_enter Tryz.func31, Tryz.ntmps31
 go_wp2_with fail
 refine (Calls.mono (MK0.out _ (Rep.below H0.out B0.out))) ?_
 rintro e w1 ⟨rfl, r0, d1⟩
 have S1_0 := Lib.hid r0
 have S1_1 := Lib.hid (Rep.keepF (Rep.below H1.out B0.out) d1 ap1_0)
 have D1 := Lib.hid (((ModF.of_below B0.out).trans (d1.wider (fp' := f0 ++ f1) (fun b hb => by simp [hb]))))
 have V1 := Lib.hid (show Lvar w1 w.heap.size _ from Mem.lvar_modF V0.out d1 (fun hb => by have := L0.out w.heap.size (by simp [hb]); omega))
 have v1_0 := V1.out.cell 0 _ rfl
 have v1_1 := V1.out.cell 1 _ rfl
 clear d1 r0
 go_wp2_with fail
 refine (Calls.mono (MK1.out _ S1_1.out)) ?_
 rintro e w2 ⟨rfl, r1, d2⟩
 have S2_0 := Lib.hid (Rep.keepF S1_0.out d2 ap0_1)
 have S2_1 := Lib.hid r1
 have D2 := Lib.hid (D1.out.trans (d2.wider (fp' := f0 ++ f1) (fun b hb => by simp [hb])))
 have V2 := Lib.hid (show Lvar w2 w.heap.size _ from Mem.lvar_modF V1.out d2 (fun hb => by have := L0.out w.heap.size (by simp [hb]); omega))
 have v2_0 := V2.out.cell 0 _ rfl
 have v2_1 := V2.out.cell 1 _ rfl
 clear v1_0 v1_1
 clear d2 r1
 have HF := Lib.hid (show ((m1 : Nat) : Int) = ((k0 + nvProgram (x0, x1) : Nat) : Int) by have := HB.out; simp only [nvProgram]; omega)
 have HG : prg.rep true w2 (f0 ++ f1) [.slice A0 x0.length c0, .slice A1 x1.length c1] (mvProgram k0 (x0, x1)) := by
  have := HB.out
  obtain ⟨kk0, kk1⟩ := this
  simp only [mvProgram]
  rw [← kk0]
  have t0 := S2_0.out
  rw [← mks_len (mk := mkFunctionU) (sz := nFunctionU) x0 k0] at t0
  have t1 := S2_1.out
  rw [← mks_len (mk := mkRuleU) (sz := nRuleU) x1 m0] at t1
  have hh := prg_close  t0 t1
  simp only [mks_len] at hh
  exact hh
 have HG := Lib.hid HG
 go_wp2
 go_ret
 exact ⟨by rw [← HF.out]; rfl, HG.out, D2.out⟩
theorem markProgramU (lo hi : Nat) (A0 : Option Addr) (c0 : Nat) (x0 : List FunctionT) (A1 : Option Addr) (c1 : Nat) (x1 : List RuleT) (k0 : Nat) (w : World) (h : OwnR prg lo hi w [.slice A0 x0.length c0, .slice A1 x1.length c1] (x0, x1)) (hk1 : 1 ≤ k0) (hk : k0 + 8 * szProgramU (x0, x1) ≤ 1000000000) :
  Calls Tryz.prog 31 #[.agg #[.slice A0 x0.length c0, .slice A1 x1.length c1], .int .i64 k0] w fun e w' => e = .returned (.int .i64 ((k0 + nvProgram (x0, x1) : Nat) : Int)) ∧ OwnR prg lo hi w' [.slice A0 x0.length c0, .slice A1 x1.length c1] (mvProgram k0 (x0, x1)) ∧ Mod lo hi w w' := by
 obtain ⟨h0, fp, h2, h3, h4⟩ := h
 exact (markFProgramU fp A0 c0 x0 A1 c1 x1 k0 w h2 h3 hk1 hk).mono fun e w' ⟨he, hr, hm⟩ => ⟨he, ⟨Nat.le_trans h0 hm.size, fp, hr, h3, h4⟩, hm.mod h4⟩
theorem copyProgramA (A0 : Option Addr) (c0 : Nat) (x0 : List FunctionT) (A1 : Option Addr) (c1 : Nat) (x1 : List RuleT) (w : World) (h : ArgR prg w [.slice A0 x0.length c0, .slice A1 x1.length c1] (x0, x1)) (hl : szProgramU (x0, x1) ≤ 100000000) :
  Calls Tryz.prog 28 #[.agg #[.slice A0 x0.length c0, .slice A1 x1.length c1]] w fun e w' => ∃ B0 B1, e = .returned (.agg #[.slice B0 x0.length x0.length, .slice B1 x1.length x1.length]) ∧ OwnR prg w.heap.size w'.heap.size w' [.slice B0 x0.length x0.length, .slice B1 x1.length x1.length] (x0, x1) ∧ Below w.heap.size w w' := by
 obtain ⟨q, fp, h⟩ := h
 obtain ⟨f0, f1, _, h0, h1⟩ := prg_parts h
 exact copyProgramU q f0 q f1 A0 c0 x0 A1 c1 x1 w h0 h1 hl
theorem sizeProgramA (A0 : Option Addr) (c0 : Nat) (x0 : List FunctionT) (A1 : Option Addr) (c1 : Nat) (x1 : List RuleT) (L : Nat) (w : World) (h : ArgR prg w [.slice A0 x0.length c0, .slice A1 x1.length c1] (x0, x1)) (hL : L ≤ 1000000000) (hs : WfProgramU (x0, x1)) :
  Calls Tryz.prog 27 #[.agg #[.slice A0 x0.length c0, .slice A1 x1.length c1], .int .i64 L] w fun e w' => e = .returned (.int .i64 (IntK.leftOf L (szProgramU (x0, x1)))) ∧ Below w.heap.size w w' := by
 obtain ⟨q, fp, h⟩ := h
 obtain ⟨f0, f1, _, h0, h1⟩ := prg_parts h
 exact sizeProgramU q f0 q f1 A0 c0 x0 A1 c1 x1 L w h0 h1 hL hs
theorem eqProgramA (A0 : Option Addr) (c0 : Nat) (x0 : List FunctionT) (A1 : Option Addr) (c1 : Nat) (x1 : List RuleT) (B0 : Option Addr) (d0 : Nat) (B1 : Option Addr) (d1 : Nat) (w : World) (h : ArgR prg w [.slice A0 x0.length c0, .slice A1 x1.length c1] (x0, x1)) (k : ArgR prg w [.slice B0 x0.length d0, .slice B1 x1.length d1] (x0, x1)) (hl : szProgramU (x0, x1) ≤ 100000000) :
  Calls Tryz.prog 30 #[.agg #[.slice A0 x0.length c0, .slice A1 x1.length c1], .agg #[.slice B0 x0.length d0, .slice B1 x1.length d1]] w fun e w' => e = .returned (.bool true) ∧ Below w.heap.size w w' := by
 obtain ⟨q, fp, h⟩ := h
 obtain ⟨f0, f1, _, h0, h1⟩ := prg_parts h
 obtain ⟨p, gp, k⟩ := k
 obtain ⟨g0, g1, _, k0, k1⟩ := prg_parts k
 exact eqProgramU q p f0 g0 q p f1 g1 A0 c0 x0 A1 c1 x1 B0 d0 B1 d1 w h0 h1 k0 k1 hl
theorem markProgramK (lo hi : Nat) (A0 : Option Addr) (c0 : Nat) (x0 : List FunctionT) (A1 : Option Addr) (c1 : Nat) (x1 : List RuleT) (k0 k1 : Nat) (hk9 : k1 = k0 + nvProgram (x0, x1)) (w : World) (h : OwnR prg lo hi w [.slice A0 x0.length c0, .slice A1 x1.length c1] (x0, x1)) (hk1 : 1 ≤ k0) (hk : k0 + 8 * szProgramU (x0, x1) ≤ 1000000000) :
  Calls Tryz.prog 31 #[.agg #[.slice A0 x0.length c0, .slice A1 x1.length c1], .int .i64 k0] w fun e w' => e = .returned (.int .i64 (k1 : Int)) ∧ OwnR prg lo hi w' [.slice A0 x0.length c0, .slice A1 x1.length c1] (mvProgram k0 (x0, x1)) ∧ Mod lo hi w w' := by
 rw [hk9]
 exact markProgramU lo hi A0 c0 x0 A1 c1 x1 k0 w h hk1 hk
end Mem
end Go.Proofs.YtbbllkhmenpnlaaGreat
