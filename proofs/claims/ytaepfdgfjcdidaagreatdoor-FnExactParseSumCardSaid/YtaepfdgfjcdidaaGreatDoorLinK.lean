import Derived.Test.YtaepfdgfjcdidaaGreatDoorProg
import Derived.Test.YtaepfdgfjcdidaaGreatDoorRowss
import Derived.Test.YtaepfdgfjcdidaaGreatDoorIntRow
import Derived.Lib.Hide
import Derived.Deep.QuietTactic
import Derived.BigQuiet
/-
  The laws' helpers on linear expressions: copy, size, comparison, marks.
-/
namespace Go.Proofs.YtaepfdgfjcdidaaGreatDoor
open Go.RowKit
namespace LinK
open RowK

theorem bcell {W w1 : World} (hb : Below W.heap.size W w1) : (∀ b o, b < W.heap.size → w1.cell? ⟨b, o, none⟩ = W.cell? ⟨b, o, none⟩) ∧ (∀ b o, b < W.heap.size → w1.frozen? ⟨b, o, none⟩ = W.frozen? ⟨b, o, none⟩) :=
  ⟨fun b o h => hb.cell (p := ⟨b, o, none⟩) h, fun b o h => hb.frozen (p := ⟨b, o, none⟩) h⟩

/-- The value of a linear expression. -/
def lv (z : Int) (A : Option Addr) (n c : Nat) : Value := .agg #[.int .i64 z, .slice A n c]

def Copied (w : World) (z : Int) (zs : List Int) (e : Ending) (w' : World) : Prop :=
  ∃ A, e = .returned (.agg #[.int .i64 z, .slice A zs.length zs.length]) ∧ Row w.heap.size w'.heap.size w' A (IntK.iv zs) ∧ Free w' A zs.length ∧ Below w.heap.size w w'

/-- Behind a statement that lays a linear expression into a new variable, beside a bool. -/
def AfterO (w : World) (T : Int × List Int) (q : Bool) (s t : Value) (wx : World) : Prop :=
  ∃ b A c, s = .pointer (some ⟨b, 0, none⟩) ∧ t = .bool q ∧ w.heap.size ≤ b ∧ Lvar wx b #[.int .i64 T.1, .slice A T.2.length c] ∧ IntK.Own w.heap.size wx.heap.size wx A T.2 ∧ Below w.heap.size w wx
theorem afterO_new {w w5 : World} {T : Int × List Int} {q : Bool} {lo c : Nat} {A : Option Addr} {t : TypeId} (hd : Below w.heap.size w w5) (r : Row lo w5.heap.size w5 A (IntK.iv T.2)) (f : Free w5 A T.2.length) (hlo : w.heap.size ≤ lo) :
    AfterO w T q (.pointer (some ⟨w5.heap.size, 0, none⟩)) (.bool q) (w5.alloc (Obj.cells #[.int .i64 T.1, .slice A T.2.length c] t)) := by
  have b : Below w5.heap.size w5 (w5.alloc (Obj.cells #[.int .i64 T.1, .slice A T.2.length c] t)) := (Below.refl _ _).alloc (Nat.le_refl _) _
  exact ⟨_, A, c, rfl, rfl, hd.size, Lvar.new _ _ _, ⟨(r.below b).wider hlo (by simp) (Nat.le_refl _), f.below r (by rw [IntK.iv_len]; exact Nat.le_refl _) b⟩, hd.alloc hd.size _⟩
theorem afterO_old {w w5 : World} {T : Int × List Int} {q : Bool} {lo c b : Nat} {A : Option Addr} {x y : Value} (hd : Below w.heap.size w w5) (v : Lvar w5 b #[x, y]) (r : Row lo w5.heap.size w5 A (IntK.iv T.2)) (f : Free w5 A T.2.length) (hb : w.heap.size ≤ b) (hlo : b < lo) :
    AfterO w T q (.pointer (some ⟨b, 0, none⟩)) (.bool q) ((w5.setCell ⟨b, 0, none⟩ (.int .i64 T.1)).setCell ⟨b, 1, none⟩ (.slice A T.2.length c)) := by
  have m : Mod b (b + 1) w5 ((w5.setCell ⟨b, 0, none⟩ (.int .i64 T.1)).setCell ⟨b, 1, none⟩ (.slice A T.2.length c)) := (Mod.set _ (p := ⟨b, 0, none⟩) (Nat.le_refl _) (Nat.lt_succ_self _) _).trans (Mod.set _ (p := ⟨b, 1, none⟩) (Nat.le_refl _) (Nat.lt_succ_self _) _)
  have hv := (v.set 0 (.int .i64 T.1)).set 1 (.slice A T.2.length c)
  exact ⟨b, A, c, rfl, rfl, hb, by simpa using hv, ⟨(r.keep m (Or.inr hlo)).wider (by omega) m.size (Nat.le_refl _), f.keep r (by rw [IntK.iv_len]; exact Nat.le_refl _) m (Or.inr hlo)⟩, (hd.setCell hb _).setCell hb _⟩
end LinK
end Go.Proofs.YtaepfdgfjcdidaaGreatDoor
