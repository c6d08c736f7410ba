import Derived.Test.YtbdpohcababccaaGreatPgmScopeS
import Derived.Test.YtbdpohcababccaaGreatStrKeep2
/-
  Rules as arguments of a law; strings as a result; how long a scope is.
-/
namespace Go.Proofs.YtbdpohcababccaaGreat
open Go.RowKit
namespace Mem
open RowK ProgI
theorem own_SR {lo hi n c : Nat} {w : World} {A : Option Addr} {ss : List ByteArray} (h : OwnS Rep.str lo hi w A n c ss) : StrK.SR lo hi w A ss := by
  obtain ⟨h0, fp, h1, _, h3⟩ := h
  obtain ⟨r1, f1, _, _, rfl⟩ := strs_open h1
  refine ⟨r1, f1 rfl, h0, fun a e => h3 a.block ?_⟩
  unfold StrK.blk at e
  unfold fpS
  split at e
  · cases e
  · rename_i hne
    rw [if_neg hne, e]
    simp
theorem arg_rule {w : World} {A1 A2 A3 A5 : Option Addr} {c1 c2 c3 c5 : Nat} {z0 : ByteArray} {x1 : List PatternT} {x2 : List SumT} {x3 : List CallT} {z4 : Bool} {x5 : List SumT} {z6 : ByteArray}
    (h : ArgR rule w [.string z0, .slice A1 x1.length c1, .slice A2 x2.length c2, .slice A3 x3.length c3, .bool z4, .slice A5 x5.length c5, .string z6] (z0, x1, x2, x3, z4, x5, z6)) :
    ArgS pat w A1 x1.length c1 x1 ∧ ArgS Mem.sum w A2 x2.length c2 x2 ∧ ArgS call w A3 x3.length c3 x3 ∧ ArgS Mem.sum w A5 x5.length c5 x5 := by
  obtain ⟨q, fp, h⟩ := h
  obtain ⟨f1, f2, f3, f5, _, h1, h2, h3, h5⟩ := rule_parts h
  exact ⟨⟨q, f1, h1⟩, ⟨q, f2, h2⟩, ⟨q, f3, h3⟩, q, f5, h5⟩
theorem scope_len (fs : List FunctionT) (z0 : ByteArray) (ps : List PatternT) (cs : List CallT) (n : Int) {m : Nat} (h : fs.length + szs szFunctionU fs ≤ m) : (scopeM fs z0 ps cs n).length ≤ m + 2 * ps.length + cs.length := by
  have h1 := find_small (nm := z0) h
  unfold scopeM
  cases hf : findF fs z0 with
  | none => simp
  | some f =>
    rw [hf] at h1
    have h2 : f.2.1.length ≤ szFunctionU f := by unfold szFunctionU; omega
    have h3 : szFunctionU f ≤ m := h1
    have h4 := nmP_len ps
    simp only
    split
    · simp only [List.length_append, nmC, List.length_map, List.length_take]
      omega
    · simp
end Mem
end Go.Proofs.YtbdpohcababccaaGreat
