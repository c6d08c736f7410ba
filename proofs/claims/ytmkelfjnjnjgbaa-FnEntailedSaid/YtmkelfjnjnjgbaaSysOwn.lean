import Derived.Test.YtmkelfjnjnjgbaaRepSys
import Derived.Test.YtmkelfjnjnjgbaaSysSpec
/-
  Systems beside the worlds of an exact law: owned ones with the stretch of blocks in which they lie, and arguments.
-/
namespace Go.Proofs.Ytmkelfjnjnjgbaa
open Go.RowKit
namespace SysK
open RowK Mem

def Own (lo hi : Nat) (w : World) (A : Option Addr) (n c : Nat) (xs : List (Int × List Int)) : Prop := hi ≤ w.heap.size ∧ ∃ fp, lins.rep true w fp [.slice A n c] xs ∧ fp.Nodup ∧ ∀ b ∈ fp, lo ≤ b ∧ b < hi
theorem Own.below {lo hi n c : Nat} {w w' : World} {A : Option Addr} {xs : List (Int × List Int)} (h : Own lo hi w A n c xs) (hb : Below w.heap.size w w') : Own lo hi w' A n c xs := by
  obtain ⟨h0, fp, h1, h2, h3⟩ := h
  exact ⟨Nat.le_trans h0 hb.size, fp, Rep.below h1 hb, h2, h3⟩
theorem Own.keep {lo hi lo' hi' n c : Nat} {w w' : World} {A : Option Addr} {xs : List (Int × List Int)} (h : Own lo hi w A n c xs) (m : Mod lo' hi' w w') (hd : hi ≤ lo' ∨ hi' ≤ lo) : Own lo hi w' A n c xs := by
  obtain ⟨h0, fp, h1, h2, h3⟩ := h
  exact ⟨Nat.le_trans h0 m.size, fp, Rep.keep h1 m (fun b hb => by have := h3 b hb; omega), h2, h3⟩
/-- What an argument holds. -/
def Arg (w : World) (A : Option Addr) (n c : Nat) (xs : List (Int × List Int)) : Prop := ∃ q fp, lins.rep q w fp [.slice A n c] xs
theorem Arg.below {n c : Nat} {w w' : World} {A : Option Addr} {xs : List (Int × List Int)} (h : Arg w A n c xs) (hb : Below w.heap.size w w') : Arg w' A n c xs := by
  obtain ⟨q, fp, h1⟩ := h
  exact ⟨q, fp, Rep.below h1 hb⟩
theorem Own.arg {lo hi n c : Nat} {w : World} {A : Option Addr} {xs : List (Int × List Int)} (h : Own lo hi w A n c xs) : Arg w A n c xs := by
  obtain ⟨_, fp, h1, _⟩ := h
  exact ⟨true, fp, h1⟩
theorem Own.of_new {w w' : World} {A : Option Addr} {n : Int} {m c : Nat} {xs : List (Int × List Int)} (h : New Mem.sys w (n, xs) w' [.int .i64 n, .slice A m c]) : Own w.heap.size w'.heap.size w' A m c xs := by
  obtain ⟨fp, h1, h2, h3⟩ := h
  obtain ⟨B, d, e, h4⟩ := sys_open h1
  have e2 : Value.slice A m c = .slice B xs.length d := by injection e with _ e; injection e
  rw [← e2] at h4
  exact ⟨Nat.le_refl _, fp, h4, h2, fun b hb => ⟨h3 b hb, lins.lt h4 b hb⟩⟩

theorem copy (n : Int) (A : Option Addr) (c : Nat) (xs : List (Int × List Int)) (w : World) (hA : Arg w A xs.length c xs) (hl : linsSize xs ≤ 1000000000) :
    Calls Try.prog 25 #[.agg #[.int .i64 n, .slice A xs.length c]] w fun e w' => ∃ B, e = .returned (.agg #[.int .i64 n, .slice B xs.length xs.length]) ∧ Own w.heap.size w'.heap.size w' B xs.length xs.length xs ∧ Below w.heap.size w w' := by
  obtain ⟨q, fp, h⟩ := hA
  refine (copySys q fp n A c xs w h hl).mono fun e w' ⟨B, he, hN, hb⟩ => ⟨B, he, Own.of_new hN, hb⟩
theorem size (n : Int) (A : Option Addr) (c L : Nat) (xs : List (Int × List Int)) (w : World) (hA : Arg w A xs.length c xs) (hL : L ≤ 1000000000) (hl : xs.length ≤ 9223372036854775807) (hs : ∀ x ∈ xs, x.2.length ≤ 9223372036854775807) :
    Calls Try.prog 23 #[.agg #[.int .i64 n, .slice A xs.length c], .int .i64 L] w fun e w' => e = .returned (.int .i64 (IntK.leftOf L (linsSize xs))) ∧ Below w.heap.size w w' := by
  obtain ⟨q, fp, h⟩ := hA
  exact sizeSys q fp n A c L xs w h hL hl hs
theorem eq_same (n : Int) (A B : Option Addr) (c d : Nat) (xs : List (Int × List Int)) (w : World) (hA : Arg w A xs.length c xs) (hB : Arg w B xs.length d xs) (hl : linsSize xs ≤ 1000000000) :
    Calls Try.prog 28 #[.agg #[.int .i64 n, .slice A xs.length c], .agg #[.int .i64 n, .slice B xs.length d]] w fun e w' => e = .returned (.bool true) ∧ Below w.heap.size w w' := by
  obtain ⟨q, fp, h⟩ := hA
  obtain ⟨q2, gp, h2⟩ := hB
  exact eqSys q q2 fp gp n A B c d xs w h h2 hl
theorem mark (lo hi : Nat) (n : Int) (A : Option Addr) (c k0 : Nat) (xs : List (Int × List Int)) (w : World) (hA : Own lo hi w A xs.length c xs) (hl : linsSize xs ≤ 1000000000) (hk0 : k0 ≤ 1000000000) :
    Calls Try.prog 30 #[.agg #[.int .i64 n, .slice A xs.length c], .int .i64 k0] w fun e w' => e = .returned (.int .i64 ((k0 : Int) + linsSize xs)) ∧ Own lo hi w' A xs.length c (marksL k0 xs) ∧ Mod lo hi w w' := by
  obtain ⟨h0, fp, h1, h2, h3⟩ := hA
  exact (markSys fp n A c k0 xs w h1 h2 hl hk0).mono fun e w' ⟨he, hr, hm⟩ => ⟨he, ⟨Nat.le_trans h0 hm.size, fp, hr, h2, h3⟩, hm.mod h3⟩
theorem valid (n : Int) (A : Option Addr) (c : Nat) (xs : List (Int × List Int)) (w : World) (hA : Arg w A xs.length c xs) (hl : linsSize xs ≤ 1000000000) :
    Calls Try.prog 43 #[.agg #[.int .i64 n, .slice A xs.length c]] w fun e w' => e = .returned (.bool (SysS.sysV n xs)) ∧ Below w.heap.size w w' := by
  obtain ⟨q, fp, h⟩ := hA
  exact SysS.valid q fp n A c xs w h hl
end SysK
end Go.Proofs.Ytmkelfjnjnjgbaa
