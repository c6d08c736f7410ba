import Derived.Test.YtaepfdgfjcdidaaStrMark
/-
  Marks, where the slice may be empty: what is written is a block of the slice alone ('blk'); rows that stay.
-/
namespace Go.Proofs.Ytaepfdgfjcdidaa
open Go.RowKit
namespace StrK

/-- The block of a slice that holds something. -/
def blk (A : Option Addr) (ss : List ByteArray) : Option Addr := if ss = [] then none else A

theorem blk_lt {w : World} {A : Option Addr} {ss : List ByteArray} (h : SRow w A ss) : ∀ b, blk A ss = some b → b.block < w.heap.size := fun b e => by
  unfold blk at e
  split at e
  · cases e
  · rename_i hn
    obtain ⟨g, o, rfl, hlt, _⟩ := h hn
    injection e with e; subst e; exact hlt
theorem blk_ge {B : Nat} {A : Option Addr} {ss : List ByteArray} (h : ∀ a, A = some a → B ≤ a.block) : ∀ b, blk A ss = some b → B ≤ b.block := fun b e => by
  unfold blk at e
  split at e
  · cases e
  · exact h b e

set_option maxRecDepth 100000 in
theorem mark2 (A : Option Addr) (c k : Nat) (ss : List ByteArray) (w : World) (hA : SRow w A ss) (hf : Free w A ss.length) (h1 : 1 ≤ k) (h2 : k + ss.length ≤ 1000000000000) :
    Calls Try.prog 21 #[.slice A ss.length c, .int .i64 k] w fun e w' => e = .returned (.int .i64 ((k : Int) + ss.length)) ∧ SRow w' A (marks k ss.length) ∧ Only w w' (blk A ss) ∧ Free w' A ss.length := by
  by_cases hn : ss = []
  · subst hn
    go_enter Try.func21, Try.ntmps21
    go_wp2
    refine wp_loop_rounds 1 ?_
    rw [rounds_succ]
    go_wp2
    go_ret
    exact ⟨by simp, fun h => absurd rfl h, only_refl _ _, fun h => by simp at h⟩
  · have e : blk A ss = A := by unfold blk; rw [if_neg hn]
    rw [e]
    exact mark A c k ss w hA hf h1 h2
theorem mark21 (A : Option Addr) (c : Nat) (ss : List ByteArray) (w : World) (hA : SRow w A ss) (hf : Free w A ss.length) (h2 : ss.length ≤ 100000000) :
    Calls Try.prog 21 #[.slice A ss.length c, .int .i64 1] w fun e w' => e = .returned (.int .i64 (1 + (ss.length : Int))) ∧ SRow w' A (marks 1 ss.length) ∧ Only w w' (blk A ss) ∧ Free w' A ss.length :=
  mark2 A c 1 ss w hA hf (Nat.le_refl _) (by omega)

/-- A row that is younger than what was written stays. -/
theorem SRow.only_earlier {w w' : World} {A B : Option Addr} {ss : List ByteArray} {n : Nat} (h : SRow w A ss) (ho : Only w w' B) (hA : ∀ a, A = some a → n ≤ a.block) (hB : ∀ b, B = some b → b.block < n) : SRow w' A ss :=
  h.only ho (fun a b ea eb => by have h1 := hA a ea; have h2 := hB b eb; omega)
theorem Free.only_earlier {w w' : World} {A B : Option Addr} {ss : List ByteArray} {n : Nat} (h : Free w A ss.length) (hr : SRow w A ss) (ho : Only w w' B) (hA : ∀ a, A = some a → n ≤ a.block) (hB : ∀ b, B = some b → b.block < n) : Free w' A ss.length := fun hn b o e j hj => by
  obtain ⟨b', o', e', hlt, _⟩ := hr (fun e => by rw [e] at hn; simp at hn)
  rw [e'] at e
  injection e with e; injection e with e1 e2; subst e1; subst e2
  have hf := h hn _ _ e' j hj
  unfold World.frozen? at hf ⊢
  rw [ho.block b' hlt (fun e => by
    cases hB' : B with
    | none => rw [hB'] at e; cases e
    | some y =>
      rw [hB'] at e; injection e with e
      have h1 : n ≤ b' := hA _ e'
      have h2 : y.block < n := hB _ hB'
      have e3 : b' = y.block := e
      omega)]
  exact hf
/-- A row that was there at w0 stays where what was written is younger. -/
theorem SRow.only_later_ {w0 w w' : World} {A B : Option Addr} {ss : List ByteArray} (h : SRow w A ss) (h0 : SRow w0 A ss) (ho : Only w w' B) (hB : ∀ b, B = some b → w0.heap.size ≤ b.block) : SRow w' A ss := h0.only_later h ho hB
theorem below_blk {B0 : Nat} {w w1 w2 : World} {B : Option Addr} {ss : List ByteArray} (h : Below B0 w w1) (ho : Only w1 w2 (blk B ss)) (hB : B0 ≤ w1.heap.size) (hr : ∀ b, B = some b → B0 ≤ b.block) : Below B0 w w2 :=
  below_only h ho hB (blk_ge hr)
end StrK
end Go.Proofs.Ytaepfdgfjcdidaa
