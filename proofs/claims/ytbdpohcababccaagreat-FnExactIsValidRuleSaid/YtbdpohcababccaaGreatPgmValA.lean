import Derived.Test.YtbdpohcababccaaGreatPgmValS4
import Derived.Test.YtbdpohcababccaaGreatPgmArg0
import Derived.Test.YtbdpohcababccaaGreatPgmArg2
/-
  Programs: validity of rules, in the laws' form (made by tools/p10v.py).
-/
namespace Go.Proofs.YtbdpohcababccaaGreat
open Go.RowKit
namespace ProgI
open RowK Mem ProgM
theorem ruleA {A0 : Option Addr} {c0 : Nat} {x0 : List FunctionT} {A1 : Option Addr} {c1 : Nat} {x1 : List RuleT} {z0 : ByteArray} {B1 : Option Addr} {d1 : Nat} {y1 : List PatternT} {B2 : Option Addr} {d2 : Nat} {y2 : List SumT} {B3 : Option Addr} {d3 : Nat} {y3 : List CallT} {z4 : Bool} {B5 : Option Addr} {d5 : Nat} {y5 : List SumT} {z6 : ByteArray} {w : World} (h : ArgR prg w [.slice A0 x0.length c0, .slice A1 x1.length c1] (x0, x1)) (k : ArgR rule w [.string z0, .slice B1 y1.length d1, .slice B2 y2.length d2, .slice B3 y3.length d3, .bool z4, .slice B5 y5.length d5, .string z6] (z0, y1, y2, y3, z4, y5, z6)) (hl : szProgramU (x0, x1) ≤ 9000000) (hr : szRuleU (z0, y1, y2, y3, z4, y5, z6) ≤ 9000000) :
    Calls Tryz.prog 12 #[.agg #[.slice A0 x0.length c0, .slice A1 x1.length c1], .agg #[.string z0, .slice B1 y1.length d1, .slice B2 y2.length d2, .slice B3 y3.length d3, .bool z4, .slice B5 y5.length d5, .string z6]] w fun e w' => e = .returned (.bool (ruleV x0 (z0, y1, y2, y3, z4, y5, z6))) ∧ Below w.heap.size w w' := by
  obtain ⟨k1, k2, k3, k5⟩ := arg_rule k
  simp only [szProgramU] at hl
  exact validRule A0 A1 x1.length c0 c1 x0 z0 B1 d1 y1 B2 d2 y2 B3 d3 y3 z4 B5 d5 y5 z6 w (arg_prg h).1 (by omega) k1 k2 k3 k5 (by omega)
end ProgI
namespace ProgS
open RowK Mem ProgM ProgI
theorem ruleA {A0 : Option Addr} {c0 : Nat} {x0 : List FunctionT} {A1 : Option Addr} {c1 : Nat} {x1 : List RuleT} {z0 : ByteArray} {B1 : Option Addr} {d1 : Nat} {y1 : List PatternT} {B2 : Option Addr} {d2 : Nat} {y2 : List SumT} {B3 : Option Addr} {d3 : Nat} {y3 : List CallT} {z4 : Bool} {B5 : Option Addr} {d5 : Nat} {y5 : List SumT} {z6 : ByteArray} {w : World} (h : ArgR prg w [.slice A0 x0.length c0, .slice A1 x1.length c1] (x0, x1)) (k : ArgR rule w [.string z0, .slice B1 y1.length d1, .slice B2 y2.length d2, .slice B3 y3.length d3, .bool z4, .slice B5 y5.length d5, .string z6] (z0, y1, y2, y3, z4, y5, z6)) (hl : szProgramU (x0, x1) ≤ 9000000) (hr : szRuleU (z0, y1, y2, y3, z4, y5, z6) ≤ 9000000) :
    Calls Tryz.prog 16 #[.agg #[.slice A0 x0.length c0, .slice A1 x1.length c1], .agg #[.string z0, .slice B1 y1.length d1, .slice B2 y2.length d2, .slice B3 y3.length d3, .bool z4, .slice B5 y5.length d5, .string z6]] w fun e w' => e = .returned (.bool (ruleV x0 (z0, y1, y2, y3, z4, y5, z6))) ∧ Below w.heap.size w w' := by
  obtain ⟨k1, k2, k3, k5⟩ := arg_rule k
  simp only [szProgramU] at hl
  exact validRule A0 A1 x1.length c0 c1 x0 z0 B1 d1 y1 B2 d2 y2 B3 d3 y3 z4 B5 d5 y5 z6 w (arg_prg h).1 (by omega) k1 k2 k3 k5 (by omega)
end ProgS
end Go.Proofs.YtbdpohcababccaaGreat
