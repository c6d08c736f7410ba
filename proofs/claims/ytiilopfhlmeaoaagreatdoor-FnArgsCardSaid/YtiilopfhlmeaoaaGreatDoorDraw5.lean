import Derived.Test.YtiilopfhlmeaoaaGreatDoorDraw6
import Derived.Test.YtiilopfhlmeaoaaGreatDoorDrawOnce
import Derived.Test.YtiilopfhlmeaoaaGreatDoorTextCons
/-
  The draws of the fifth chapter: names, expressions beside names, texts.
-/
namespace Go.Proofs.YtiilopfhlmeaoaaGreatDoor
open Go.RowKit
namespace Draw
open RowK

theorem srow_mod {lo hi : Nat} {w w' : World} {B : Option Addr} {ss : List ByteArray} (h : StrK.SRow w B ss) (m : Mod lo hi w w') (hd : ∀ a, B = some a → a.block < lo ∨ hi ≤ a.block) : StrK.SRow w' B ss := fun hn => by
  obtain ⟨b, o, rfl, hlt, hc⟩ := h hn
  have hb := hd _ rfl
  simp only at hb
  exact ⟨b, o, rfl, Nat.lt_of_lt_of_le hlt m.size, fun j s hj => by rw [World.cell?_of_block (w := w) (m.block b hlt (by omega))]; exact hc j s hj⟩
/-- A text of at most so many bytes, in the cursor's world. -/
def Turned (m : Nat) (w : World) (g : Nat) (A : Option Addr) (n c : Nat) (e : Ending) (w' : World) : Prop := ∃ s : ByteArray, s.size ≤ m ∧ e = .returned (.string s) ∧ Left w g A n c w'
theorem drew_left {w w' : World} {g : Nat} {A : Option Addr} {n c : Nat} (h : Left w.drew g A n c w') : Left w g A n c w' := ⟨h.1, ⟨h.2.os, h.2.tape, h.2.output, h.2.size, h.2.block⟩⟩

set_option maxHeartbeats 2000000 in
set_option maxRecDepth 100000 in
theorem turned (g : Nat) (A : Option Addr) (n c : Nat) (s : ByteArray) (hs : s.size ≤ 1000) (B : Option Addr) (k d : Nat) (ls : List ByteArray) (hk : ls.length = k) (hne : ls ≠ []) (hmax : k ≤ 1000000) (hm : ∀ x ∈ ls, x.size ≤ 4) (w : World) (hC : Cur w g A n c) (hB : StrK.SRow w B ls) (hg : ∀ b, B = some b → b.block ≠ g) :
    Calls Tryz.prog 31 #[.pointer (some ⟨g, 0, none⟩), .string s, .slice B k d] w (Turned (s.size + 4) w g A n c) := by
  have HS := Lib.hid hs
  go_enter Tryz.func31, Tryz.ntmps31
  go_wp2_with fail
  refine (below g A n c ((s.size : Int) + 1) (by omega) _ hC).mono ?_
  rintro e w1 ⟨x, hx0, hx1, _, rfl, hL1⟩
  have hx2 := hx1 (by omega)
  obtain ⟨j, rfl⟩ := Int.eq_ofNat_of_zero_le hx0
  have hj : (j : Int) ≤ (s.size : Int) := by omega
  have hjn : j ≤ s.size := by omega
  have R1 := hB.only hL1.2 (fun a y e e' => by injection e' with e'; subst e'; exact hg a e)
  clear hx1 hx2 hx0
  go_wp2_with fail
  refine (below g A n c 6 (by omega) _ hL1.1).mono ?_
  rintro e w2 ⟨y, hy0, hy1, _, rfl, hL2⟩
  have R2 := Lib.hid (R1.only hL2.2 (fun a y e e' => by injection e' with e'; subst e'; exact hg a e))
  have HL := Lib.hid (hL1.trans hL2)
  have h1 : (s.extract 0 j).size = j := by rw [ByteArray.size_extract]; omega
  have h2 : (s.extract j s.size).size = s.size - j := by rw [ByteArray.size_extract]; omega
  clear hy1 R1 hL1 hL2
  by_cases y0 : y = 0
  · subst y0
    have HJ := Lib.hid (And.intro h1 h2)
    have PK := Lib.hid (pick g A n c B k d ls hk hne hmax w2.drew (HL.out.1.keep (Below.refl _ _).drew) (R2.out.below (Below.refl _ _).drew) hg)
    have HM := Lib.hid hm
    have hcat : ∀ (t : ByteArray) (W : World), t.size ≤ 4 → Sem.run Tryz.prog (Op.stringOp .add (s.extract 0 j) t) W = .ok (.string (s.extract 0 j ++ t)) W ∧ Sem.run Tryz.prog (Op.stringOp .add (s.extract 0 j ++ t) (s.extract j s.size)) W = .ok (.string (s.extract 0 j ++ t ++ s.extract j s.size)) W := fun t W ht =>
      ⟨run_string_add_sum W _ _ (by rw [HJ.out.1]; omega), run_string_add_sum W _ _ (by rw [ByteArray.size_append, HJ.out.1, HJ.out.2]; omega)⟩
    have HCT := Lib.hid hcat
    clear h1 h2 hs hk hne hmax hm hcat hB hC
    go_wp2_with fail
    go_region_law (first
      | (go_simp; go_at_call 37; refine (Calls.mono PK.out) ?_; rintro e w4 ⟨t, ht, rfl, hL⟩; (have ht := HM.out t ht); (have c1 := fun W => (HCT.out t W ht).1); (have c2 := fun W => (HCT.out t W ht).2)))
    all_goals
      have F := Lib.hid (show Turned (s.size + 4) w g A n c (.returned (.string (s.extract 0 j ++ t ++ s.extract j s.size))) w4 from ⟨_, by rw [ByteArray.size_append, ByteArray.size_append, HJ.out.1, HJ.out.2]; omega, rfl, HL.out.trans (drew_left hL)⟩)
      clear c1 c2 ht hL
      go_wp2
      go_ret
      exact F.out
  · have y0' : (y == 0) = false := by simpa using y0
    by_cases y1 : y = 1
    · subst y1
      have F := Lib.hid (show Turned (s.size + 4) w g A n c (.returned (.string (s.extract 0 j))) w2 from ⟨_, by rw [h1]; omega, rfl, HL.out⟩)
      clear h1 h2 y0
      go_wp2
      go_ret
      exact F.out
    · have y1' : (y == 1) = false := by simpa using y1
      have F := Lib.hid (show Turned (s.size + 4) w g A n c (.returned (.string s)) w2 from ⟨_, by omega, rfl, HL.out⟩)
      clear h1 h2 y0 y1
      go_wp2
      go_ret
      exact F.out

end Draw
end Go.Proofs.YtiilopfhlmeaoaaGreatDoor
