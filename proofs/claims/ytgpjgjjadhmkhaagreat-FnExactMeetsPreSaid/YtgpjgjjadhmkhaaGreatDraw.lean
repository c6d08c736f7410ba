import Derived.Test.YtgpjgjjadhmkhaaGreatProg
import Derived.Test.YtgpjgjjadhmkhaaGreatStrRow
import Derived.Lib.Hide
import Derived.Deep.QuietTactic
import Derived.BigQuiet
import Derived.Laws.BitsAllLaws
/-
  The model's source of drawn arguments: a cursor over the bytes of a code ('Cur'), and what each of its functions hands back: some value of its range.
-/
namespace Go.Proofs.YtgpjgjjadhmkhaaGreat
open Go.RowKit
namespace Draw

/-- The slice with this address holds n bytes. -/
def Code (w : World) (A : Option Addr) (n : Nat) : Prop :=
  0 < n → ∃ b o, A = some ⟨b, o, none⟩ ∧ b < w.heap.size ∧ ∀ j, j < n → ∃ x : Int, 0 ≤ x ∧ x ≤ 255 ∧ w.cell? ⟨b, o + j, none⟩ = some (.int .u8 x)

/-- Block g is a cursor over these bytes. -/
def Cur (w : World) (g : Nat) (A : Option Addr) (n c : Nat) : Prop :=
  Code w A n ∧ (∀ a, A = some a → 0 < n → a.block < g) ∧ ∃ (i : Nat) (h : Int), i ≤ n ∧ n ≤ 1048576 ∧ w.heap[g]? = some (.cells #[.slice A n c, .int .i64 i, .int .i64 h] 115 (0, 0))

theorem Code.only {w w' : World} {A B : Option Addr} {n : Nat} (h : Code w A n) (ho : StrK.Only w w' B) (hne : ∀ a b, A = some a → B = some b → 0 < n → a.block ≠ b.block) : Code w' A n := fun hn => by
  obtain ⟨b, o, rfl, hlt, hc⟩ := h hn
  refine ⟨b, o, rfl, Nat.lt_of_lt_of_le hlt ho.size, fun j hj => ?_⟩
  obtain ⟨x, h0, h1, hx⟩ := hc j hj
  exact ⟨x, h0, h1, StrK.cell_only hx ho (fun y e => hne _ y rfl e hn)⟩

theorem Code.keep {w w' : World} {A : Option Addr} {n : Nat} (h : Code w A n) (hb : Below w.heap.size w w') : Code w' A n := h.only (StrK.only_below hb none) (fun _ _ _ e => by cases e)

theorem Cur.lt {w : World} {g : Nat} {A : Option Addr} {n c : Nat} (h : Cur w g A n c) : g < w.heap.size := by
  obtain ⟨_, _, _, _, _, _, hh⟩ := h
  exact (Array.getElem?_eq_some_iff.1 hh).1

/-- What a function of the cursor leaves: the cursor, and nothing else turned. -/
def Left (w : World) (g : Nat) (A : Option Addr) (n c : Nat) (w' : World) : Prop := Cur w' g A n c ∧ StrK.Only w w' (some ⟨g, 0, none⟩)

theorem Left.trans {w w1 w2 : World} {g : Nat} {A : Option Addr} {n c : Nat} (h : Left w g A n c w1) (k : Left w1 g A n c w2) : Left w g A n c w2 := ⟨k.1, StrK.only_trans h.2 k.2⟩

theorem Cur.keep {w w' : World} {g : Nat} {A : Option Addr} {n c : Nat} (h : Cur w g A n c) (hb : Below w.heap.size w w') : Cur w' g A n c := by
  have hlt := h.lt
  obtain ⟨hc, ha, i, x, h1, h2, hh⟩ := h
  refine ⟨hc.only (StrK.only_below hb none) (fun _ _ _ e => by cases e), ha, i, x, h1, h2, ?_⟩
  rw [hb.block g hlt]; exact hh

end Draw
end Go.Proofs.YtgpjgjjadhmkhaaGreat
