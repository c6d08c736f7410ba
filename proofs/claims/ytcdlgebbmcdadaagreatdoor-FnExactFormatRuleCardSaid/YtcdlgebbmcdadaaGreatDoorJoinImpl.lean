import Derived.Test.YtcdlgebbmcdadaaGreatDoorProg
import Derived.Test.YtcdlgebbmcdadaaGreatDoorStrRow
import Derived.Test.YtcdlgebbmcdadaaGreatDoorStrBytes
import Derived.Test.YtcdlgebbmcdadaaGreatDoorShelf
import Derived.Lib.Hide
import Derived.Lib.Join
/-
  Joining: its mathematics ('joined'), and the program's Join.
-/
namespace Go.Proofs.YtcdlgebbmcdadaaGreatDoor
open Go.RowKit
namespace JoinS

/-- The elements with the separator between them. -/
def joined (ss : List ByteArray) (sep : ByteArray) : List UInt8 := Lib.join (ss.map (·.data.toList)) sep.data.toList

theorem joined_nil (sep : ByteArray) : joined [] sep = [] := rfl
theorem joined_snoc (ss : List ByteArray) (s sep : ByteArray) : joined (ss ++ [s]) sep = if ss = [] then s.data.toList else joined ss sep ++ sep.data.toList ++ s.data.toList := by
  cases ss with
  | nil => simp [joined, Lib.join_one]
  | cons a r =>
    rw [if_neg (by simp)]
    simp only [joined, List.cons_append, List.map_cons, List.map_append, List.map_nil, Lib.join_cons, Lib.joinTail]
    simp

theorem joined_take (ss : List ByteArray) (sep : ByteArray) (k : Nat) (h : k < ss.length) : joined (ss.take (k + 1)) sep = if k = 0 then ss[k].data.toList else joined (ss.take k) sep ++ sep.data.toList ++ ss[k].data.toList := by
  rw [List.take_add_one, List.getElem?_eq_getElem h]
  show joined (ss.take k ++ [ss[k]]) sep = _
  rw [joined_snoc]
  by_cases hk : k = 0
  · subst hk; simp
  · rw [if_neg hk, if_neg (by intro e; have := congrArg List.length e; rw [List.length_take, List.length_nil] at this; omega)]

theorem joined_length (ss : List ByteArray) (sep : ByteArray) : (joined ss sep).length ≤ StrK.bytesOf ss + ss.length * sep.size := by
  have key : ∀ k, k ≤ ss.length → (joined (ss.take k) sep).length ≤ StrK.bytesOf (ss.take k) + k * sep.size := by
    intro k
    induction k with
    | zero => intro _; simp [joined_nil]
    | succ k ih =>
      intro hk
      have := ih (by omega)
      have e1 : ss[k].data.toList.length = ss[k].size := by simp
      have e2 : sep.data.toList.length = sep.size := by simp
      rw [joined_take ss sep k (by omega), StrK.bytesOf_take ss k (by omega), Nat.succ_mul]
      split
      · omega
      · simp only [List.length_append]; omega
  have := key ss.length (Nat.le_refl _)
  rwa [List.take_length] at this

theorem impl (A : Option Addr) (c : Nat) (ss : List ByteArray) (sep : ByteArray) (w : World) (hA : StrK.SRow w A ss) (hl : ss.length ≤ 1000000000) (hc : ss.length ≤ c) (hroom : StrK.bytesOf ss + ss.length * sep.size ≤ 100000000000000) :
    Calls Tryz.prog 22 #[.slice A ss.length c, .string sep] w fun e w' => e = .returned (.string ⟨(joined ss sep).toArray⟩) ∧ Below w.heap.size w w' := by
  have key : Calls Tryz.prog 41 #[.slice A ss.length c, .string sep] w fun e w' => e = .returned (.string ⟨(joined ss sep).toArray⟩) ∧ Below w.heap.size w w' := by
    by_cases hn : ss = []
    · subst hn
      exact (Tryz.strings_Join_none A c sep w).mono fun e w' ⟨h1, h2⟩ => ⟨h1, h2 ▸ Below.refl _ _⟩
    · obtain ⟨b, o, rfl, hb, hcell⟩ := hA hn
      exact Tryz.strings_Join b o c ss sep w hcell hb (by omega) hc (Nat.le_trans (joined_length ss sep) (by omega))
  have K := Lib.hid key
  clear key hroom
  go_enter Tryz.func22, Tryz.ntmps22
  go_wp2_with fail
  refine (Calls.mono K.out) ?_
  rintro e w1 ⟨rfl, hb⟩
  go_wp2
  go_ret
  exact ⟨rfl, hb⟩
end JoinS
end Go.Proofs.YtcdlgebbmcdadaaGreatDoor
