import Derived.Test.YtbdpohcababccaaGreatSysOwn
import Derived.Test.YtbdpohcababccaaGreatLinSpec2
import Derived.Test.YtbdpohcababccaaGreatRepGen
/-
  The model's copy of a system.
-/
namespace Go.Proofs.YtbdpohcababccaaGreat
open Go.RowKit
namespace SysS
open RowK Mem LinM

/-- A system in new memory, whose rows may be appended to. -/
def GaveSys (w : World) (n : Int) (xs : List (Int × List Int)) (e : Ending) (w' : World) : Prop :=
  ∃ v, e = .returned (.agg #[.int .i64 n, v]) ∧ Owned lin 125 (fun b => w.heap.size ≤ b) w' v xs ∧ Below w.heap.size w w'
theorem own_slice {ok : Nat → Prop} {lo : Nat} {w : World} {v : Value} {xs : List (Int × List Int)} (h : Owned lin 125 ok w v xs) (hk : ∀ b, ok b → lo ≤ b) : ∃ A c, v = .slice A xs.length c ∧ SysK.Own lo w.heap.size w A xs.length c xs := by
  obtain ⟨A, c, fp, rfl, h1, h2, h3⟩ := h.rep (Nat.succ_pos _)
  exact ⟨A, c, rfl, Nat.le_refl _, fp, h1, h2, fun b hb => ⟨hk b (h3 b hb), lins.lt h1 b hb⟩⟩
theorem own_wider {lo hi lo' hi' n c : Nat} {w : World} {A : Option Addr} {xs : List (Int × List Int)} (h : SysK.Own lo hi w A n c xs) (h1 : lo' ≤ lo) (h2 : hi ≤ hi') (h3 : hi' ≤ w.heap.size) : SysK.Own lo' hi' w A n c xs := by
  obtain ⟨_, fp, k1, k2, k3⟩ := h
  exact ⟨h3, fp, k1, k2, fun b hb => ⟨Nat.le_trans h1 (k3 b hb).1, Nat.lt_of_lt_of_le (k3 b hb).2 h2⟩⟩
def addB (n : Int) (xs : List (Int × List Int)) (x : Int × List Int) : Bool := sysV n xs && sysV n (xs ++ [x])
def addL (n : Int) (xs : List (Int × List Int)) (x : Int × List Int) : List (Int × List Int) := if addB n xs x = true then xs ++ [x] else xs
def GaveAdd (w : World) (n : Int) (xs : List (Int × List Int)) (x : Int × List Int) (e : Ending) (w' : World) : Prop :=
  ∃ A c, e = .returned (.tuple #[.agg #[.int .i64 n, .slice A (addL n xs x).length c], .bool (addB n xs x)]) ∧ SysK.Own w.heap.size w'.heap.size w' A (addL n xs x).length c (addL n xs x) ∧ Below w.heap.size w w'
theorem linsSize_snoc (xs : List (Int × List Int)) (x : Int × List Int) : linsSize (xs ++ [x]) = linsSize xs + 1 + x.2.length := by simp [linsSize]; omega
theorem sysV_of_snoc {n : Int} {xs : List (Int × List Int)} {x : Int × List Int} (h : sysV n (xs ++ [x]) = true) : sysV n xs = true := by
  unfold sysV at h ⊢
  simp only [List.all_append, List.length_append, List.length_singleton, Bool.and_eq_true, decide_eq_true_eq] at h ⊢
  exact ⟨h.1.1, h.2.1, by omega⟩
theorem gaveAdd_yes {w w' : World} {n : Int} {xs : List (Int × List Int)} {x : Int × List Int} {A : Option Addr} {c : Nat} (h : addB n xs x = true) (hO : SysK.Own w.heap.size w'.heap.size w' A (xs ++ [x]).length c (xs ++ [x])) (hb : Below w.heap.size w w') :
    GaveAdd w n xs x (.returned (.tuple #[.agg #[.int .i64 n, .slice A (xs ++ [x]).length c], .bool true])) w' := by
  have e : addL n xs x = xs ++ [x] := if_pos h
  exact ⟨A, c, by rw [e, h], by rw [e]; exact hO, hb⟩
theorem gaveAdd_no {w w' : World} {n : Int} {xs : List (Int × List Int)} {x : Int × List Int} {A : Option Addr} {c : Nat} (h : addB n xs x = false) (hO : SysK.Own w.heap.size w'.heap.size w' A xs.length c xs) (hb : Below w.heap.size w w') :
    GaveAdd w n xs x (.returned (.tuple #[.agg #[.int .i64 n, .slice A xs.length c], .bool false])) w' := by
  have e : addL n xs x = xs := if_neg (by rw [h]; simp)
  exact ⟨A, c, by rw [e, h], by rw [e]; exact hO, hb⟩

def CopyRel (w : World) (n : Int) (A : Option Addr) (c : Nat) (xs : List (Int × List Int)) (i : Value) (wr : World) : Prop :=
  ∃ (k : Nat) (v : Value), k ≤ xs.length ∧ i = .int .i64 k ∧ Owned lin 125 (fun b => w.heap.size + 3 ≤ b) wr v (xs.take k) ∧ Lvar wr w.heap.size #[.int .i64 n, .slice A xs.length c] ∧ Lvar wr (w.heap.size + 1) #[.int .i64 0, .slice none 0 0] ∧ Lvar wr (w.heap.size + 1 + 1) #[.int .i64 n, v] ∧ Below w.heap.size w wr

end SysS
end Go.Proofs.YtbdpohcababccaaGreat
