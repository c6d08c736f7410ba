import Derived.Test.YtgpjgjjadhmkhaaProg
import Derived.Test.YtgpjgjjadhmkhaaStrRow
import Derived.Lib.Hide
import Derived.Deep.QuietTactic
import Derived.BigQuiet
import Derived.Laws.BitsAllLaws
/-
  The model's source of drawn arguments: a cursor over the bytes of a code ('Cur'), and what each of its functions hands back: some value of its range.
-/
namespace Go.Proofs.Ytgpjgjjadhmkhaa
open Go.RowKit
namespace Draw

/-- The slice with this address holds n bytes. -/
def Code (w : World) (A : Option Addr) (n : Nat) : Prop :=
  0 < n → ∃ b o, A = some ⟨b, o, none⟩ ∧ b < w.heap.size ∧ ∀ j, j < n → ∃ x : Int, 0 ≤ x ∧ x ≤ 255 ∧ w.cell? ⟨b, o + j, none⟩ = some (.int .u8 x)

theorem Code.only {w w' : World} {A B : Option Addr} {n : Nat} (h : Code w A n) (ho : StrK.Only w w' B) (hne : ∀ a b, A = some a → B = some b → 0 < n → a.block ≠ b.block) : Code w' A n := fun hn => by
  obtain ⟨b, o, rfl, hlt, hc⟩ := h hn
  refine ⟨b, o, rfl, Nat.lt_of_lt_of_le hlt ho.size, fun j hj => ?_⟩
  obtain ⟨x, h0, h1, hx⟩ := hc j hj
  exact ⟨x, h0, h1, StrK.cell_only hx ho (fun y e => hne _ y rfl e hn)⟩

theorem Code.keep {w w' : World} {A : Option Addr} {n : Nat} (h : Code w A n) (hb : Below w.heap.size w w') : Code w' A n := h.only (StrK.only_below hb none) (fun _ _ _ e => by cases e)

theorem and_255 (e : Int) : 0 ≤ bits .and .i64 e 255 ∧ bits .and .i64 e 255 ≤ 255 := by
  have h : bits .and .i64 e 255 = IntKind.i64.wrap ((BitVec.ofInt 64 e &&& BitVec.ofInt 64 255).toNat : Int) := rfl
  rw [h, BitVec.toNat_and]
  have h2 : (BitVec.ofInt 64 255).toNat = 255 := rfl
  rw [h2]
  have h3 := Nat.and_le_right (n := (BitVec.ofInt 64 e).toNat) (m := 255)
  rw [IntKind.wrap_i64]
  omega

theorem block_set2 {w : World} {g : Nat} {v0 v1 v2 : Value} {T : TypeId} (h : w.heap[g]? = some (.cells #[v0, v1, v2] T (0, 0))) (u : Value) : (w.setCell ⟨g, 2, none⟩ u).heap[g]? = some (.cells #[v0, v1, u] T (0, 0)) := by
  simp [World.setCell, Array.getElem?_modify, h]
theorem block_set1 {w : World} {g : Nat} {v0 v1 v2 : Value} {T : TypeId} (h : w.heap[g]? = some (.cells #[v0, v1, v2] T (0, 0))) (u : Value) : (w.setCell ⟨g, 1, none⟩ u).heap[g]? = some (.cells #[v0, u, v2] T (0, 0)) := by
  simp [World.setCell, Array.getElem?_modify, h]

theorem only_one {w w' : World} {g : Nat} {u : Value} (ho : w'.os = w.os) (ht : w'.tape = w.tape) (hu : w'.output = w.output) (hh : w'.heap = (w.setCell ⟨g, 2, none⟩ u).heap) : StrK.Only w w' (some ⟨g, 0, none⟩) :=
  ⟨ho, ht, hu, by rw [hh]; simp [World.setCell], fun i _ hn => by rw [hh]; exact Below.heap_setCell _ _ _ _ (by rintro rfl; exact hn rfl)⟩
theorem only_two {w w' : World} {g : Nat} {u v : Value} (ho : w'.os = w.os) (ht : w'.tape = w.tape) (hu : w'.output = w.output) (hh : w'.heap = ((w.setCell ⟨g, 2, none⟩ u).setCell ⟨g, 1, none⟩ v).heap) : StrK.Only w w' (some ⟨g, 0, none⟩) :=
  ⟨ho, ht, hu, by rw [hh]; simp [World.setCell], fun i _ hn => by rw [hh, Below.heap_setCell _ _ _ _ (by rintro rfl; exact hn rfl)]; exact Below.heap_setCell _ _ _ _ (by rintro rfl; exact hn rfl)⟩

theorem and_30 (e : Int) : 0 ≤ bits .and .i64 e 1073741823 ∧ bits .and .i64 e 1073741823 ≤ 1073741823 := by
  have h : bits .and .i64 e 1073741823 = IntKind.i64.wrap ((BitVec.ofInt 64 e &&& BitVec.ofInt 64 1073741823).toNat : Int) := rfl
  rw [h, BitVec.toNat_and]
  have h2 : (BitVec.ofInt 64 1073741823).toNat = 1073741823 := rfl
  rw [h2]
  have h3 := Nat.and_le_right (n := (BitVec.ofInt 64 e).toNat) (m := 1073741823)
  rw [IntKind.wrap_i64]
  omega

theorem row_new (w : World) (ss : List ByteArray) (T : TypeId) : StrK.SRow (w.alloc (.cells (ss.map Value.string).toArray T)) (some ⟨w.heap.size, 0, none⟩) ss := fun _ =>
  ⟨w.heap.size, 0, rfl, by simp, fun j x hj => by
    rw [World.cell?_alloc_at _ _ _ _ rfl]
    simp [hj]⟩

/-- A text of at most so many bytes. -/
def AText (m : Nat) (w : World) (e : Ending) (w' : World) : Prop := ∃ s : ByteArray, s.size ≤ m ∧ e = .returned (.string s) ∧ Below w.heap.size w w'

end Draw
end Go.Proofs.Ytgpjgjjadhmkhaa
