import Derived.Test.YtkeejkpeniinkaaGreatDoorStrMark
import Derived.Test.YtkeejkpeniinkaaGreatDoorRow
import Derived.Test.YtkeejkpeniinkaaGreatDoorStrMore
/-
  Marks, where the slice may be empty: what is written is a block of the slice alone ('blk'); rows that stay.
-/
namespace Go.Proofs.YtkeejkpeniinkaaGreatDoor
open Go.RowKit
namespace StrK

/-- The block of a slice that holds something. -/
def blk (A : Option Addr) (ss : List ByteArray) : Option Addr := if ss = [] then none else A

theorem blk_lt {w : World} {A : Option Addr} {ss : List ByteArray} (h : SRow w A ss) : ∀ b, blk A ss = some b → b.block < w.heap.size := fun b e => by
  unfold blk at e
  split at e
  · cases e
  · rename_i hn
    obtain ⟨g, o, rfl, hlt, _⟩ := h hn
    injection e with e; subst e; exact hlt
theorem blk_ge {B : Nat} {A : Option Addr} {ss : List ByteArray} (h : ∀ a, A = some a → B ≤ a.block) : ∀ b, blk A ss = some b → B ≤ b.block := fun b e => by
  unfold blk at e
  split at e
  · cases e
  · exact h b e

set_option maxRecDepth 100000 in
theorem mark2 (A : Option Addr) (c k : Nat) (ss : List ByteArray) (w : World) (hA : SRow w A ss) (hf : Free w A ss.length) (h1 : 1 ≤ k) (h2 : k + ss.length ≤ 1000000000000) :
    Calls Tryz.prog 22 #[.slice A ss.length c, .int .i64 k] w fun e w' => e = .returned (.int .i64 ((k : Int) + ss.length)) ∧ SRow w' A (marks k ss.length) ∧ Only w w' (blk A ss) ∧ Free w' A ss.length := by
  by_cases hn : ss = []
  · subst hn
    go_enter Tryz.func22, Tryz.ntmps22
    go_wp2
    refine wp_loop_rounds 1 ?_
    rw [rounds_succ]
    go_wp2
    go_ret
    exact ⟨by simp, fun h => absurd rfl h, only_refl _ _, fun h => by simp at h⟩
  · have e : blk A ss = A := by unfold blk; rw [if_neg hn]
    rw [e]
    exact mark A c k ss w hA hf h1 h2
theorem mark21 (A : Option Addr) (c : Nat) (ss : List ByteArray) (w : World) (hA : SRow w A ss) (hf : Free w A ss.length) (h2 : ss.length ≤ 100000000) :
    Calls Tryz.prog 22 #[.slice A ss.length c, .int .i64 1] w fun e w' => e = .returned (.int .i64 (1 + (ss.length : Int))) ∧ SRow w' A (marks 1 ss.length) ∧ Only w w' (blk A ss) ∧ Free w' A ss.length :=
  mark2 A c 1 ss w hA hf (Nat.le_refl _) (by omega)

/-- A row that is younger than what was written stays. -/
theorem SRow.only_earlier {w w' : World} {A B : Option Addr} {ss : List ByteArray} {n : Nat} (h : SRow w A ss) (ho : Only w w' B) (hA : ∀ a, A = some a → n ≤ a.block) (hB : ∀ b, B = some b → b.block < n) : SRow w' A ss :=
  h.only ho (fun a b ea eb => by have h1 := hA a ea; have h2 := hB b eb; omega)
theorem Free.only_earlier {w w' : World} {A B : Option Addr} {ss : List ByteArray} {n : Nat} (h : Free w A ss.length) (hr : SRow w A ss) (ho : Only w w' B) (hA : ∀ a, A = some a → n ≤ a.block) (hB : ∀ b, B = some b → b.block < n) : Free w' A ss.length := fun hn b o e j hj => by
  obtain ⟨b', o', e', hlt, _⟩ := hr (fun e => by rw [e] at hn; simp at hn)
  rw [e'] at e
  injection e with e; injection e with e1 e2; subst e1; subst e2
  have hf := h hn _ _ e' j hj
  unfold World.frozen? at hf ⊢
  rw [ho.block b' hlt (fun e => by
    cases hB' : B with
    | none => rw [hB'] at e; cases e
    | some y =>
      rw [hB'] at e; injection e with e
      have h1 : n ≤ b' := hA _ e'
      have h2 : y.block < n := hB _ hB'
      have e3 : b' = y.block := e
      omega)]
  exact hf
/-- A row that was there at w0 stays where what was written is younger. -/
theorem SRow.only_later_ {w0 w w' : World} {A B : Option Addr} {ss : List ByteArray} (h : SRow w A ss) (h0 : SRow w0 A ss) (ho : Only w w' B) (hB : ∀ b, B = some b → w0.heap.size ≤ b.block) : SRow w' A ss := h0.only_later h ho hB
theorem below_blk {B0 : Nat} {w w1 w2 : World} {B : Option Addr} {ss : List ByteArray} (h : Below B0 w w1) (ho : Only w1 w2 (blk B ss)) (hB : B0 ≤ w1.heap.size) (hr : ∀ b, B = some b → B0 ≤ b.block) : Below B0 w w2 :=
  below_only h ho hB (blk_ge hr)
end StrK
end Go.Proofs.YtkeejkpeniinkaaGreatDoor

/-
  Slices of strings beside rows of integers: the stretch of blocks in which they lie; what marks have written.
-/
namespace Go.Proofs.YtkeejkpeniinkaaGreatDoor
open Go.RowKit
namespace StrK
open RowK

/-- The slice holds these strings, in a block from lo to hi. -/
def SR (lo hi : Nat) (w : World) (A : Option Addr) (ss : List ByteArray) : Prop :=
  SRow w A ss ∧ Free w A ss.length ∧ hi ≤ w.heap.size ∧ ∀ a, blk A ss = some a → lo ≤ a.block ∧ a.block < hi
theorem SR.new {w w' : World} {A : Option Addr} {ss : List ByteArray} (h : SRow w' A ss) (f : Free w' A ss.length) (hn : ∀ a, A = some a → w.heap.size ≤ a.block) : SR w.heap.size w'.heap.size w' A ss :=
  ⟨h, f, Nat.le_refl _, fun a e => ⟨blk_ge hn a e, blk_lt h a e⟩⟩
theorem SR.below {lo hi : Nat} {w w' : World} {A : Option Addr} {ss : List ByteArray} (h : SR lo hi w A ss) (hb : Below w.heap.size w w') : SR lo hi w' A ss :=
  ⟨h.1.below hb, h.2.1.below h.1 hb, Nat.le_trans h.2.2.1 hb.size, h.2.2.2⟩
theorem SR.keep {lo hi lo' hi' : Nat} {w w' : World} {A : Option Addr} {ss : List ByteArray} (h : SR lo hi w A ss) (m : Mod lo' hi' w w') (hd : hi ≤ lo' ∨ hi' ≤ lo) : SR lo hi w' A ss := by
  obtain ⟨h1, h2, h3, h4⟩ := h
  refine ⟨fun hn => ?_, fun hp b o e j hj => ?_, Nat.le_trans h3 m.size, h4⟩
  · obtain ⟨b, o, rfl, hlt, hc⟩ := h1 hn
    have hb := h4 ⟨b, o, none⟩ (by unfold blk; rw [if_neg hn])
    simp only at hb
    exact ⟨b, o, rfl, Nat.lt_of_lt_of_le hlt m.size, fun j s hj => by rw [World.cell?_of_block (w := w) (m.block b hlt (by omega))]; exact hc j s hj⟩
  · have hn : ss ≠ [] := fun e => by rw [e] at hp; simp at hp
    obtain ⟨b', o', e', hlt, _⟩ := h1 hn
    rw [e'] at e
    injection e with e; injection e with e1 e2; subst e1; subst e2
    have hb := h4 ⟨b', o', none⟩ (by unfold blk; rw [if_neg hn]; exact e')
    simp only at hb
    have hf := h2 hp b' o' e' j hj
    rw [World.frozen?_of_block (w := w) (m.block b' hlt (by omega))]
    exact hf
/-- The marks in a slice of strings. -/
theorem markS (lo hi : Nat) (A : Option Addr) (c : Nat) (ss : List ByteArray) (w : World) (h : SR lo hi w A ss) (h2 : ss.length ≤ 100000000) :
    Calls Tryz.prog 22 #[.slice A ss.length c, .int .i64 1] w fun e w' => e = .returned (.int .i64 (1 + (ss.length : Int))) ∧ Mod lo hi w w' :=
  (mark21 A c ss w h.1 h.2.1 h2).mono fun e w' ⟨h1, _, ho, _⟩ => ⟨h1, ho.os, ho.tape, ho.output, ho.size, fun i hii hn => ho.block i hii (fun e => by
    cases hb : blk A ss with
    | none => rw [hb] at e; cases e
    | some y =>
      rw [hb] at e; injection e with e; have e : i = y.block := e
      have := h.2.2.2 y hb
      omega)⟩
end StrK
end Go.Proofs.YtkeejkpeniinkaaGreatDoor
