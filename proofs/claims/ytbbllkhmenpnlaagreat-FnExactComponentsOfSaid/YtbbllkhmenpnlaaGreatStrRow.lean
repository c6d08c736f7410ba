import Derived.WalkKit
import Derived.WalkSpells
import Derived.WalkLawsBesides
/-
  Slices of strings in memory: what a slice holds ('SRow'), which places may be written ('Free'), what a call may have written ('Only').
-/
namespace Go.Proofs.YtbbllkhmenpnlaaGreat
open Go.RowKit
namespace StrK

def SRow (w : World) (A : Option Addr) (ss : List ByteArray) : Prop :=
 ss ≠ [] → ∃ b o, A = some ⟨b, o, none⟩ ∧ b < w.heap.size ∧ ∀ j s, ss[j]? = some s → w.cell? ⟨b, o + j, none⟩ = some (.string s)

theorem SRow.below {w w' : World} {A : Option Addr} {ss : List ByteArray} (h : SRow w A ss) (hb : Below w.heap.size w w') : SRow w' A ss := fun hn => by
 obtain ⟨b, o, rfl, hlt, hc⟩ := h hn
 exact ⟨b, o, rfl, Nat.lt_of_lt_of_le hlt hb.size, fun j s hj => by rw [hb.cell (by exact hlt)]; exact hc j s hj⟩

theorem SRow.at_ {w : World} {A : Option Addr} {ss : List ByteArray} (h : SRow w A ss) {k : Nat} (hk : k < ss.length) : ∃ b o, A = some ⟨b, o, none⟩ ∧ b < w.heap.size ∧ w.cell? ⟨b, o + k, none⟩ = some (.string ss[k]) := by
 obtain ⟨b, o, rfl, hlt, hc⟩ := h (fun e => by rw [e] at hk; simp at hk)
 exact ⟨b, o, rfl, hlt, hc k _ (List.getElem?_eq_getElem hk)⟩

abbrev Only (w w' : World) (A : Option Addr) : Prop := w.grownBy w' (A.map (·.block))

theorem only_refl (w : World) (A : Option Addr) : Only w w A := ⟨rfl, rfl, rfl, Nat.le_refl _, fun _ _ _ => rfl⟩
theorem only_trans {w1 w2 w3 : World} {A : Option Addr} (h : Only w1 w2 A) (k : Only w2 w3 A) : Only w1 w3 A :=
 ⟨k.os.trans h.os, k.tape.trans h.tape, k.output.trans h.output, Nat.le_trans h.size k.size, fun i hi hn => (k.block i (Nat.lt_of_lt_of_le hi h.size) hn).trans (h.block i hi hn)⟩
theorem only_below {w w' : World} (h : Below w.heap.size w w') (A : Option Addr) : Only w w' A := ⟨h.os, h.tape, h.output, h.size, fun i hi _ => h.block i hi⟩
theorem only_set (w : World) (b o : Nat) (v : Value) : Only w (w.setCell ⟨b, o, none⟩ v) (some ⟨b, 0, none⟩) :=
 ⟨rfl, rfl, rfl, by simp [World.setCell], fun i _ hn => Below.heap_setCell _ _ _ _ (by rintro rfl; exact hn rfl)⟩
def Free (w : World) (A : Option Addr) (n : Nat) : Prop := 0 < n → ∀ b o, A = some ⟨b, o, none⟩ → ∀ j, j < n → w.frozen? ⟨b, o + j, none⟩ = false

theorem Free.below {w w' : World} {A : Option Addr} {ss : List ByteArray} (h : Free w A ss.length) (hA : SRow w A ss) (hb : Below w.heap.size w w') : Free w' A ss.length := fun hn b o e j hj => by
 obtain ⟨b', o', rfl, hlt, _⟩ := hA (fun e => by rw [e] at hn; simp at hn)
 injection e with e; injection e with e1 e2; subst e1; subst e2
 rw [hb.frozen (by exact hlt)]
 exact h hn _ _ rfl j hj

theorem of_own {w : World} {base : Nat} {e : TypeId} {v : Value} {ss : List ByteArray} (h : w.ownsRow base e 1 v ss.length (ss.map Value.string)) :
  ∃ A cap, v = .slice A ss.length cap ∧ SRow w A ss ∧ Free w A ss.length ∧ (∀ a, A = some a → base ≤ a.block) ∧ ss.length ≤ cap := by
 rcases h.2 with ⟨rfl, h0⟩ | ⟨g, cap, cur, rfl, hg, hh, hnc, _⟩
 ·have h0' : ss = [] := List.eq_nil_of_length_eq_zero h0
  subst h0'
  exact ⟨none, 0, rfl, fun h => absurd rfl h, fun h => by simp at h, (fun a e => by cases e), Nat.le_refl _⟩
 ·refine ⟨_, _, rfl, fun _ => ⟨g, 0, rfl, (Array.getElem?_eq_some_iff.1 hh).1, fun j x hj => ?_⟩, fun _ b o e j hj => ?_, fun a e => ?_, hnc⟩
  ·have hjl := (List.getElem?_eq_some_iff.1 hj).1
   rw [Nat.zero_add, h.cellAt j (by omega), List.getElem?_map, hj]; rfl
  ·injection e with e; injection e with e1 e2; subst e1; subst e2
   rw [Nat.zero_add]
   exact h.frozenAt j
  ·injection e with e; subst e; exact hg

end StrK
end Go.Proofs.YtbbllkhmenpnlaaGreat
