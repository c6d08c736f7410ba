import Derived.Test.YtiilopfhlmeaoaaGreatDoorProg
import Derived.WalkKit
import Derived.Maps.Own
import Derived.Maps.Views
import Derived.StringKeys
import Derived.Test.YtiilopfhlmeaoaaGreatDoorArgMath2
import Derived.Lib.Hide
/-
  A map from texts to bools that the call makes and fills: what it answers ('MapHas').
-/
namespace Go.Proofs.YtiilopfhlmeaoaaGreatDoor
open Go.RowKit Go.WideMaps Go.Maps
namespace MapK

theorem law : Keyed Tryz.prog 9 := string_keyed Tryz.underlying9
theorem zeroB (w : World) : (zeroValue 4).run Tryz.prog w = .ok (.bool false) w := by kernel_rfl

/-- The block holds a map that answers f. -/
def MapHas (w : World) (b n : Nat) (f : List UInt8 → Bool) : Prop :=
  ∃ D : DataW Unit, w.ownsMap Tryz.prog 9 (plainElem Tryz.prog 4) b n D ∧ IsMap D ∧ ∀ l, D.atKey (.string l) (.lit (.bool false)) = .lit (.bool (f l))

theorem made (w : World) : MapHas (w.alloc (.map #[] 0)) w.heap.size 0 (fun _ => false) :=
  ⟨_, World.ownsMap_made _ _ _ _, ⟨[], rfl⟩, fun _ => rfl⟩

theorem plainB (x : Bool) : plainElem (H := Unit) Tryz.prog 4 (.bool x) = some (.lit (.bool x), []) := by
  simp [plainElem, Tryz.underlying4]

theorem plainB_inv {v : Value} {x : Bool} {ps : List MemPlace} (h : plainElem (H := Unit) Tryz.prog 4 v = some (.lit (.bool x), ps)) : v = .bool x := by
  simp only [plainElem, Tryz.underlying4] at h
  split at h <;> simp_all

theorem isMap_put {D : DataW Unit} (h : IsMap D) (k : Lit) (d : DataW Unit) : IsMap (D.put k d) := by
  obtain ⟨es, rfl⟩ := h
  exact ⟨_, rfl⟩

/-- A store. -/
theorem store {w : World} {b n : Nat} {f : List UInt8 → Bool} (h : MapHas w b n f) (hn : n < maxLen) (s : ByteArray) (hs : s.size ≤ maxLen) :
    ∃ w', (Instr.mapUpdate 115 (.map (some b)) (.string s) (.bool true)).run Tryz.prog w = .ok () w' ∧ MapHas w' b (n + 1) (fun l => decide (l = s.data.toList) || f l) ∧ w.grownBy w' (some b) := by
  obtain ⟨D, hown, hm, hf⟩ := h
  obtain ⟨w', hrun, r1, r2⟩ := hown.update law Tryz.underlying115 hn (keyOf_string_mk Tryz.underlying9 hs) (plainB true)
  refine ⟨w', hrun, ⟨_, r1, isMap_put hm _ _, fun l => ?_⟩, r2⟩
  by_cases e : l = s.data.toList
  · subst e
    rw [atKey_put_same hm (by trivial)]
    simp
  · rw [atKey_put_other (by intro h; exact e (Lit.string.inj h)), hf]
    simp [e]

/-- A look-up. -/
theorem look {w : World} {b n : Nat} {f : List UInt8 → Bool} (h : MapHas w b n f) (s : ByteArray) (hs : s.size ≤ maxLen) :
    (Instr.lookup 115 (.map (some b)) (.string s) false).run Tryz.prog w = .ok (.bool (f s.data.toList)) w := by
  obtain ⟨D, hown, hm, hf⟩ := h
  obtain ⟨v, ps, hrun, hv⟩ := hown.lookup law Tryz.underlying115 (zeroB w) (plainB false) (keyOf_string_mk Tryz.underlying9 hs)
  rw [hf] at hv
  rw [hrun, plainB_inv hv]

end MapK
end Go.Proofs.YtiilopfhlmeaoaaGreatDoor

/-
  The program's IsReserved: a map that is built anew, and one look-up.
-/
namespace Go.Proofs.YtiilopfhlmeaoaaGreatDoor
open Go.RowKit Go.WideMaps Go.Maps
namespace MapK

theorem resv_eq (s : ByteArray) : (decide (s.data.toList = [110, 105, 108]) || (decide (s.data.toList = [114, 101, 116, 117, 114, 110]) || (decide (s.data.toList = [114, 117, 108, 101]) || (decide (s.data.toList = [112, 114, 101]) || (decide (s.data.toList = [102, 117, 110]) || false))))) = NameM.resv s := by
  unfold NameM.resv NameM.hasB NameM.resList
  rw [Bool.eq_iff_iff]
  simp only [List.map_cons, List.map_nil, Bool.or_eq_true, decide_eq_true_eq, List.mem_cons, List.not_mem_nil, Bool.false_eq_true, or_false]
  constructor
  · rintro (h | h | h | h | h) <;> simp [h]
  · rintro (h | h | h | h | h) <;> simp [h]

set_option maxHeartbeats 1000000 in
set_option maxRecDepth 100000 in
theorem words (w : World) :
    Calls Tryz.prog 83 #[] w fun e w' => e = .returned (.map (some w.heap.size)) ∧ (∀ s, s.size ≤ maxLen → (Instr.lookup 115 (.map (some w.heap.size)) (.string s) false).run Tryz.prog w' = .ok (.bool (NameM.resv s)) w') ∧ Below w.heap.size w w' := by
  have hmm := @run_makeMap Tryz.prog
  have h0 := Lib.hid (made w)
  have hb0 : Below w.heap.size w (w.alloc (.map #[] 0)) := (Below.refl _ _).alloc (Nat.le_refl _) _
  obtain ⟨w1, q1, h1, g1⟩ := store h0.out (by decide) ⟨#[102, 117, 110]⟩ (by decide)
  obtain ⟨w2, q2, h2, g2⟩ := store h1 (by decide) ⟨#[112, 114, 101]⟩ (by decide)
  obtain ⟨w3, q3, h3, g3⟩ := store h2 (by decide) ⟨#[114, 117, 108, 101]⟩ (by decide)
  obtain ⟨w4, q4, h4, g4⟩ := store h3 (by decide) ⟨#[114, 101, 116, 117, 114, 110]⟩ (by decide)
  obtain ⟨w5, q5, h5, g5⟩ := store h4 (by decide) ⟨#[110, 105, 108]⟩ (by decide)
  have hj : ∀ j, some w.heap.size = some j → w.heap.size ≤ j := fun j hj => by cases hj; exact Nat.le_refl _
  have hb1 := hb0.grown g1 hb0.size hj
  have hb2 := hb1.grown g2 hb1.size hj
  have hb3 := hb2.grown g3 hb2.size hj
  have hb4 := hb3.grown g4 hb3.size hj
  have hb5 := Lib.hid (hb4.grown g5 hb4.size hj)
  have hl := Lib.hid (fun s hs => (look h5 s hs).trans (congrArg (fun x => Result.ok (Value.bool x) w5) (resv_eq s)))
  clear hb0 hb1 hb2 hb3 hb4 h1 h2 h3 h4 h5 g1 g2 g3 g4 g5 hj h0
  go_enter Tryz.func83, Tryz.ntmps83
  go_wp2
  go_ret
  exact ⟨rfl, fun s hs => hl.out s hs, hb5.out⟩

/-- impl.IsReserved. -/
theorem implReserved (s : ByteArray) (hs : s.size ≤ maxLen) (w : World) :
    Calls Tryz.prog 61 #[.string s] w fun e w' => e = .returned (.bool (NameM.resv s)) ∧ Below w.heap.size w w' := by
  go_enter Tryz.func61, Tryz.ntmps61
  go_wp2_with fail
  refine (words _).mono ?_
  rintro e w1 ⟨rfl, hl, b1⟩
  have h1 := hl s hs
  clear hl
  go_wp2
  go_ret
  exact ⟨rfl, b1⟩

end MapK
theorem NameS.implReserved' (s : ByteArray) (hs : s.size ≤ maxLen) : ∀ w : World, Calls Tryz.prog 61 #[.string s] w fun e w' => e = .returned (.bool (NameM.resv s)) ∧ Below w.heap.size w w' := fun w => MapK.implReserved s hs w
end Go.Proofs.YtiilopfhlmeaoaaGreatDoor
