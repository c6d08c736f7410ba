import Derived.Test.YtaepfdgfjcdidaaGreatDoorProg
import Derived.WalkKit
import Derived.Maps.Own
import Derived.Maps.Views
import Derived.StringKeys
/-
  A map from texts to bools that the call makes and fills: what it answers ('MapHas').
-/
namespace Go.Proofs.YtaepfdgfjcdidaaGreatDoor
open Go.RowKit Go.WideMaps Go.Maps
namespace MapK

theorem law : Keyed Tryz.prog 9 := string_keyed Tryz.underlying9
theorem zeroB (w : World) : (zeroValue 4).run Tryz.prog w = .ok (.bool false) w := by kernel_rfl

/-- The block holds a map that answers f. -/
def MapHas (w : World) (b n : Nat) (f : List UInt8 → Bool) : Prop :=
  ∃ D : DataW Unit, w.ownsMap Tryz.prog 9 (plainElem Tryz.prog 4) b n D ∧ IsMap D ∧ ∀ l, D.atKey (.string l) (.lit (.bool false)) = .lit (.bool (f l))

theorem made (w : World) : MapHas (w.alloc (.map #[] 0)) w.heap.size 0 (fun _ => false) :=
  ⟨_, World.ownsMap_made _ _ _ _, ⟨[], rfl⟩, fun _ => rfl⟩

theorem plainB (x : Bool) : plainElem (H := Unit) Tryz.prog 4 (.bool x) = some (.lit (.bool x), []) := by
  simp [plainElem, Tryz.underlying4]

theorem plainB_inv {v : Value} {x : Bool} {ps : List MemPlace} (h : plainElem (H := Unit) Tryz.prog 4 v = some (.lit (.bool x), ps)) : v = .bool x := by
  simp only [plainElem, Tryz.underlying4] at h
  split at h <;> simp_all

theorem isMap_put {D : DataW Unit} (h : IsMap D) (k : Lit) (d : DataW Unit) : IsMap (D.put k d) := by
  obtain ⟨es, rfl⟩ := h
  exact ⟨_, rfl⟩

/-- A store. -/
theorem store {w : World} {b n : Nat} {f : List UInt8 → Bool} (h : MapHas w b n f) (hn : n < maxLen) (s : ByteArray) (hs : s.size ≤ maxLen) :
    ∃ w', (Instr.mapUpdate 137 (.map (some b)) (.string s) (.bool true)).run Tryz.prog w = .ok () w' ∧ MapHas w' b (n + 1) (fun l => decide (l = s.data.toList) || f l) ∧ w.grownBy w' (some b) := by
  obtain ⟨D, hown, hm, hf⟩ := h
  obtain ⟨w', hrun, r1, r2⟩ := hown.update law Tryz.underlying137 hn (keyOf_string_mk Tryz.underlying9 hs) (plainB true)
  refine ⟨w', hrun, ⟨_, r1, isMap_put hm _ _, fun l => ?_⟩, r2⟩
  by_cases e : l = s.data.toList
  · subst e
    rw [atKey_put_same hm (by trivial)]
    simp
  · rw [atKey_put_other (by intro h; exact e (Lit.string.inj h)), hf]
    simp [e]

/-- A look-up. -/
theorem look {w : World} {b n : Nat} {f : List UInt8 → Bool} (h : MapHas w b n f) (s : ByteArray) (hs : s.size ≤ maxLen) :
    (Instr.lookup 137 (.map (some b)) (.string s) false).run Tryz.prog w = .ok (.bool (f s.data.toList)) w := by
  obtain ⟨D, hown, hm, hf⟩ := h
  obtain ⟨v, ps, hrun, hv⟩ := hown.lookup law Tryz.underlying137 (zeroB w) (plainB false) (keyOf_string_mk Tryz.underlying9 hs)
  rw [hf] at hv
  rw [hrun, plainB_inv hv]

/-- 'm[k] = v' of a map's literal, at the operation. -/
theorem insert_own (w : World) {ops : Array Oper} {rest : List Oper} {o : Oper} {a : Act} {Q : Exit → Act → World → Prop}
    (hg : o.guard = none) (m x v : Operand) (hop : o.op = Op.insert 137 m x v) (b n : Nat) (f : List UInt8 → Bool)
    (hm : a.eval m = .map (some b)) (hown : MapHas w b n f) (hn : n < maxLen) (s : ByteArray) (hx : a.eval x = .string s) (hv : a.eval v = .bool true) (hs : s.size ≤ maxLen)
    (hK : ∀ w', MapHas w' b (n + 1) (fun l => decide (l = s.data.toList) || f l) → w.grownBy w' (some b) → wpList Tryz.prog ops Q rest (a.put o.dst undef) w') :
    wpList Tryz.prog ops Q (o :: rest) a w := by
  refine wpList_plain hg fun K' hK' => ?_
  obtain ⟨w', hrun, r1, r2⟩ := store hown hn s hs
  unfold Oper.wp
  simp [execOp, hop, hm, hx, hv, hrun, Result.andThen]
  exact hK' _ _ (hK w' r1 r2)

end MapK
end Go.Proofs.YtaepfdgfjcdidaaGreatDoor
