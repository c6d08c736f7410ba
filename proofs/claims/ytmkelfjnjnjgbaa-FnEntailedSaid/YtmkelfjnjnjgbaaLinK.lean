import Derived.Test.YtmkelfjnjnjgbaaProg
import Derived.Test.YtmkelfjnjnjgbaaRow
import Derived.Test.YtmkelfjnjnjgbaaIntRow
import Derived.Lib.Hide
import Derived.Deep.QuietTactic
import Derived.BigQuiet
/-
  The laws' helpers on linear expressions: copy, size, comparison, marks.
-/
namespace Go.Proofs.Ytmkelfjnjnjgbaa
open Go.RowKit
namespace LinK
open RowK

theorem bcell {W w1 : World} (hb : Below W.heap.size W w1) : (∀ b o, b < W.heap.size → w1.cell? ⟨b, o, none⟩ = W.cell? ⟨b, o, none⟩) ∧ (∀ b o, b < W.heap.size → w1.frozen? ⟨b, o, none⟩ = W.frozen? ⟨b, o, none⟩) :=
  ⟨fun b o h => hb.cell (p := ⟨b, o, none⟩) h, fun b o h => hb.frozen (p := ⟨b, o, none⟩) h⟩

/-- The value of a linear expression. -/
def lv (z : Int) (A : Option Addr) (n c : Nat) : Value := .agg #[.int .i64 z, .slice A n c]

def Copied (w : World) (z : Int) (zs : List Int) (e : Ending) (w' : World) : Prop :=
  ∃ A, e = .returned (.agg #[.int .i64 z, .slice A zs.length zs.length]) ∧ Row w.heap.size w'.heap.size w' A (IntK.iv zs) ∧ Free w' A zs.length ∧ Below w.heap.size w w'

set_option maxHeartbeats 1000000 in
set_option maxRecDepth 100000 in
theorem copy (lo hi : Nat) (z : Int) (A : Option Addr) (c : Nat) (zs : List Int) (w : World) (hA : Row lo hi w A (IntK.iv zs)) (hl : zs.length ≤ 1000000000) :
    Calls Try.prog 26 #[.agg #[.int .i64 z, .slice A zs.length c]] w (Copied w z zs) := by
  go_enter Try.func26, Try.ntmps26
  go_wp2_with fail
  refine (IntK.copy lo hi A c zs _ (hA.below (((Below.refl _ _).alloc (Nat.le_refl _) _ |>.alloc (by simp) _).alloc (by simp; omega) _)) hl).mono ?_
  rintro e w1 ⟨A1, rfl, r1, f1, b1⟩
  have b0 : Below w.heap.size w w1 := (((Below.refl _ _).alloc (Nat.le_refl _) _ |>.alloc (by simp) _).alloc (by simp; omega) _).trans (b1.mono (by simp; omega))
  obtain ⟨hc, hf⟩ := bcell b1
  have hz := b1.size
  simp only [World.size_alloc] at hz
  go_wp2_with fail
  refine bodyPost_ret (v := .agg #[.int .i64 z, .slice A1 zs.length zs.length]) (by simp [results, Try.results26, go_sem, hc]) rfl ?_
  have hm : Mod w.heap.size (w.heap.size + 3) w1 (((w1.setCell { block := w.heap.size + 1 + 1, off := 1 } (Value.slice A1 zs.length zs.length)).setCell { block := w.heap.size + 1, off := 0 } (Value.int IntKind.i64 z)).setCell { block := w.heap.size + 1, off := 1 } (Value.slice A1 zs.length zs.length)) :=
    ((Mod.set _ (by simp; omega) (by simp) _).trans (Mod.set _ (by simp) (by simp) _)).trans (Mod.set _ (by simp) (by simp) _)
  have hd : w.heap.size + 3 ≤ (((w.alloc (Obj.cells #[Value.int IntKind.i64 z, Value.slice A zs.length c] 48)).alloc (Obj.cells #[Value.int IntKind.i64 0, Value.slice none 0 0] 29)).alloc (Obj.cells #[Value.int IntKind.i64 z, Value.slice none 0 0] 29)).heap.size := by simp
  have hs := hm.size
  refine ⟨A1, rfl, (r1.keep hm (Or.inr hd)).wider (by simp; omega) hs (Nat.le_refl _), f1.keep r1 (by rw [IntK.iv_len]; exact Nat.le_refl _) hm (Or.inr hd), below_mod b0 hm (Nat.le_refl _) b0.size⟩

set_option maxHeartbeats 1000000 in
set_option maxRecDepth 100000 in
theorem size (z : Int) (A : Option Addr) (c L n : Nat) (w : World) (hL : L ≤ 1000000000000) (hl : n ≤ 9223372036854775807) :
    Calls Try.prog 24 #[.agg #[.int .i64 z, .slice A n c], .int .i64 L] w fun e w' => e = .returned (.int .i64 (IntK.leftOf L n)) ∧ Below w.heap.size w w' := by
  have SZ := Lib.hid (fun W => IntK.size A c L n W hL hl)
  unfold IntK.leftOf at *
  by_cases h0 : n ≤ L
  · rw [if_pos h0] at *
    go_enter Try.func24, Try.ntmps24
    go_wp2_with fail
    refine (SZ.out _).mono ?_
    rintro e w1 ⟨rfl, rfl⟩
    go_wp2
    go_ret
    exact ⟨rfl, (Below.refl _ _).alloc (Nat.le_refl _) _⟩
  · rw [if_neg h0] at *
    go_enter Try.func24, Try.ntmps24
    go_wp2_with fail
    refine (SZ.out _).mono ?_
    rintro e w1 ⟨rfl, rfl⟩
    go_wp2
    go_ret
    exact ⟨rfl, (Below.refl _ _).alloc (Nat.le_refl _) _⟩

set_option maxHeartbeats 1000000 in
set_option maxRecDepth 100000 in
theorem eq_same (lo hi lo' hi' : Nat) (z : Int) (A B : Option Addr) (c d : Nat) (zs : List Int) (w : World) (hA : Row lo hi w A (IntK.iv zs)) (hB : Row lo' hi' w B (IntK.iv zs)) (hl : zs.length ≤ 1000000000000) :
    Calls Try.prog 29 #[.agg #[.int .i64 z, .slice A zs.length c], .agg #[.int .i64 z, .slice B zs.length d]] w fun e w' => e = .returned (.bool true) ∧ Below w.heap.size w w' := by
  go_enter Try.func29, Try.ntmps29
  go_wp2_with fail
  have b0 : Below w.heap.size w ((w.alloc (Obj.cells #[Value.int IntKind.i64 z, Value.slice A zs.length c] 29)).alloc (Obj.cells #[Value.int IntKind.i64 z, Value.slice B zs.length d] 29)) := ((Below.refl _ _).alloc (Nat.le_refl _) _).alloc (by simp) _
  refine (IntK.eq_same lo hi lo' hi' A B c d zs _ (hA.below b0) (hB.below b0) hl).mono ?_
  rintro e w1 ⟨rfl, b1⟩
  go_wp2
  go_ret
  exact ⟨rfl, b0.trans (b1.mono b0.size)⟩

set_option maxHeartbeats 1000000 in
set_option maxRecDepth 100000 in
theorem mark (lo hi : Nat) (z : Int) (A : Option Addr) (c k : Nat) (zs : List Int) (w : World) (hA : Row lo hi w A (IntK.iv zs)) (hf : Free w A zs.length) (h2 : k + zs.length ≤ 1000000000000) :
    Calls Try.prog 31 #[.agg #[.int .i64 z, .slice A zs.length c], .int .i64 k] w fun e w' => e = .returned (.int .i64 ((k : Int) + zs.length)) ∧ Row lo hi w' A (IntK.iv (IntK.marks k zs.length)) ∧ Mod lo hi w w' ∧ Free w' A zs.length := by
  go_enter Try.func31, Try.ntmps31
  go_wp2_with fail
  have b0 : Below w.heap.size w (w.alloc (Obj.cells #[Value.int IntKind.i64 z, Value.slice A zs.length c] 29)) := (Below.refl _ _).alloc (Nat.le_refl _) _
  refine (IntK.mark lo hi A c k zs _ (hA.below b0) (hf.below hA (by rw [IntK.iv_len]; exact Nat.le_refl _) b0) h2).mono ?_
  rintro e w1 ⟨rfl, r1, m1, f1⟩
  go_wp2
  go_ret
  exact ⟨rfl, r1, (Mod.of_below b0).trans m1, f1⟩

theorem mark1 (lo hi : Nat) (z : Int) (A : Option Addr) (c : Nat) (zs : List Int) (w : World) (h : IntK.Own lo hi w A zs) (h2 : zs.length ≤ 1000000000) :
    Calls Try.prog 31 #[.agg #[.int .i64 z, .slice A zs.length c], .int .i64 1] w fun e w' => e = .returned (.int .i64 (1 + (zs.length : Int))) ∧ Row lo hi w' A (IntK.iv (IntK.marks 1 zs.length)) ∧ Mod lo hi w w' :=
  (mark lo hi z A c 1 zs w h.1 h.2 (by omega)).mono fun e w' ⟨h1, h2, h3, _⟩ => ⟨h1, h2, h3⟩
theorem markK (lo hi : Nat) (z : Int) (A : Option Addr) (c k : Nat) (zs : List Int) (w : World) (h : IntK.Own lo hi w A zs) (hk : k ≤ 1000000000) (h2 : zs.length ≤ 1000000000) :
    Calls Try.prog 31 #[.agg #[.int .i64 z, .slice A zs.length c], .int .i64 (1 + (k : Int))] w fun e w' => e = .returned (.int .i64 (1 + (k : Int) + zs.length)) ∧ Row lo hi w' A (IntK.iv (IntK.marks (1 + k) zs.length)) ∧ Mod lo hi w w' := by
  have h' := mark lo hi z A c (1 + k) zs w h.1 h.2 (by omega)
  rw [show (((1 + k : Nat)) : Int) = 1 + (k : Int) by omega] at h'
  exact h'.mono fun e w' ⟨h1, h2, h3, _⟩ => ⟨h1, h2, h3⟩
/-- Behind a statement that lays a linear expression into a new variable, beside a bool. -/
def AfterO (w : World) (T : Int × List Int) (q : Bool) (s t : Value) (wx : World) : Prop :=
  ∃ b A c, s = .pointer (some ⟨b, 0, none⟩) ∧ t = .bool q ∧ w.heap.size ≤ b ∧ Lvar wx b #[.int .i64 T.1, .slice A T.2.length c] ∧ IntK.Own w.heap.size wx.heap.size wx A T.2 ∧ Below w.heap.size w wx
theorem afterO_new {w w5 : World} {T : Int × List Int} {q : Bool} {lo c : Nat} {A : Option Addr} {t : TypeId} (hd : Below w.heap.size w w5) (r : Row lo w5.heap.size w5 A (IntK.iv T.2)) (f : Free w5 A T.2.length) (hlo : w.heap.size ≤ lo) :
    AfterO w T q (.pointer (some ⟨w5.heap.size, 0, none⟩)) (.bool q) (w5.alloc (Obj.cells #[.int .i64 T.1, .slice A T.2.length c] t)) := by
  have b : Below w5.heap.size w5 (w5.alloc (Obj.cells #[.int .i64 T.1, .slice A T.2.length c] t)) := (Below.refl _ _).alloc (Nat.le_refl _) _
  exact ⟨_, A, c, rfl, rfl, hd.size, Lvar.new _ _ _, ⟨(r.below b).wider hlo (by simp) (Nat.le_refl _), f.below r (by rw [IntK.iv_len]; exact Nat.le_refl _) b⟩, hd.alloc hd.size _⟩
theorem afterO_old {w w5 : World} {T : Int × List Int} {q : Bool} {lo c b : Nat} {A : Option Addr} {x y : Value} (hd : Below w.heap.size w w5) (v : Lvar w5 b #[x, y]) (r : Row lo w5.heap.size w5 A (IntK.iv T.2)) (f : Free w5 A T.2.length) (hb : w.heap.size ≤ b) (hlo : b < lo) :
    AfterO w T q (.pointer (some ⟨b, 0, none⟩)) (.bool q) ((w5.setCell ⟨b, 0, none⟩ (.int .i64 T.1)).setCell ⟨b, 1, none⟩ (.slice A T.2.length c)) := by
  have m : Mod b (b + 1) w5 ((w5.setCell ⟨b, 0, none⟩ (.int .i64 T.1)).setCell ⟨b, 1, none⟩ (.slice A T.2.length c)) := (Mod.set _ (p := ⟨b, 0, none⟩) (Nat.le_refl _) (Nat.lt_succ_self _) _).trans (Mod.set _ (p := ⟨b, 1, none⟩) (Nat.le_refl _) (Nat.lt_succ_self _) _)
  have hv := (v.set 0 (.int .i64 T.1)).set 1 (.slice A T.2.length c)
  exact ⟨b, A, c, rfl, rfl, hb, by simpa using hv, ⟨(r.keep m (Or.inr hlo)).wider (by omega) m.size (Nat.le_refl _), f.keep r (by rw [IntK.iv_len]; exact Nat.le_refl _) m (Or.inr hlo)⟩, (hd.setCell hb _).setCell hb _⟩
end LinK
end Go.Proofs.Ytmkelfjnjnjgbaa
