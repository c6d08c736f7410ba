import Derived.Test.YtjjhpabmhnincaaGreatDoorDraw6
import Derived.Test.YtjjhpabmhnincaaGreatDoorDrawOnce
import Derived.Test.YtjjhpabmhnincaaGreatDoorTextCons
/-
  The draws of the fifth chapter: names, expressions beside names, texts.
-/
namespace Go.Proofs.YtjjhpabmhnincaaGreatDoor
open Go.RowKit
namespace Draw
open RowK

theorem srow_mod {lo hi : Nat} {w w' : World} {B : Option Addr} {ss : List ByteArray} (h : StrK.SRow w B ss) (m : Mod lo hi w w') (hd : ∀ a, B = some a → a.block < lo ∨ hi ≤ a.block) : StrK.SRow w' B ss := fun hn => by
  obtain ⟨b, o, rfl, hlt, hc⟩ := h hn
  have hb := hd _ rfl
  simp only at hb
  exact ⟨b, o, rfl, Nat.lt_of_lt_of_le hlt m.size, fun j s hj => by rw [World.cell?_of_block (w := w) (m.block b hlt (by omega))]; exact hc j s hj⟩
theorem srow_take {w : World} {B : Option Addr} {ss : List ByteArray} (h : StrK.SRow w B ss) (k : Nat) : StrK.SRow w B (ss.take k) := fun hn => by
  obtain ⟨b, o, e, hlt, hc⟩ := h (fun e => hn (by rw [e]; simp))
  exact ⟨b, o, e, hlt, fun j s hj => hc j s (by
    rw [List.getElem?_take] at hj
    split at hj
    · exact hj
    · cases hj)⟩

def bads5 : List ByteArray := [⟨#[110]⟩, ⟨#[110]⟩, ⟨#[105, 102]⟩, ⟨#[]⟩]
def goods5 : List ByteArray := [⟨#[110]⟩, ⟨#[109]⟩, ⟨#[120, 115]⟩, ⟨#[107]⟩]
theorem bads5_size : ∀ s ∈ bads5, s.size ≤ 2 := by decide
theorem goods5_size : ∀ s ∈ goods5, s.size ≤ 2 := by decide
/-- A few short names in new memory. -/
def Some5 (w : World) (g : Nat) (A : Option Addr) (n c : Nat) (e : Ending) (w' : World) : Prop :=
  ∃ ss B d, ss.length ≤ 4 ∧ ss.length ≤ d ∧ (∀ s ∈ ss, s.size ≤ 2) ∧ e = .returned (.slice B ss.length d) ∧ StrK.SRow w' B ss ∧ (∀ a, B = some a → w.heap.size ≤ a.block) ∧ Kept w g A n c w'
theorem some5_fin {w w2 w3 : World} {g n c : Nat} {A : Option Addr} (ls : List ByteArray) (h4 : ls.length = 4) (hs : ∀ s ∈ ls, s.size ≤ 2) (j : Nat) (hj : j ≤ 4) (hL : Left w g A n c w2)
    (hL2 : Left (w2.alloc (.cells (ls.map Value.string).toArray 9)) g A n c w3) : Some5 w g A n c (.returned (.slice (some ⟨w2.heap.size, 0, none⟩) j 4)) w3 := by
  have hl : (ls.take j).length = j := by rw [List.length_take, h4]; omega
  have hgl := hL.1.lt
  refine ⟨ls.take j, some ⟨w2.heap.size, 0, none⟩, 4, by omega, by omega, fun s h => hs s (List.mem_of_mem_take h), by rw [hl], srow_take ((row_new w2 ls 9).only hL2.2 (fun a y e e' => by injection e with e; injection e' with e'; subst e; subst e'; show w2.heap.size ≠ g; omega)) j, fun a e => by injection e with e; subst e; exact hL.2.size, (hL.trans (left_keep hgl ((Below.refl _ _).alloc (Nat.le_refl _) _) hL2)).kept⟩

/-- A text of at most so many bytes, in the cursor's world. -/
def Turned (m : Nat) (w : World) (g : Nat) (A : Option Addr) (n c : Nat) (e : Ending) (w' : World) : Prop := ∃ s : ByteArray, s.size ≤ m ∧ e = .returned (.string s) ∧ Left w g A n c w'
theorem drew_left {w w' : World} {g : Nat} {A : Option Addr} {n c : Nat} (h : Left w.drew g A n c w') : Left w g A n c w' := ⟨h.1, ⟨h.2.os, h.2.tape, h.2.output, h.2.size, h.2.block⟩⟩

set_option maxHeartbeats 2000000 in
set_option maxRecDepth 100000 in
theorem turned (g : Nat) (A : Option Addr) (n c : Nat) (s : ByteArray) (hs : s.size ≤ 1000) (B : Option Addr) (k d : Nat) (ls : List ByteArray) (hk : ls.length = k) (hne : ls ≠ []) (hmax : k ≤ 1000000) (hm : ∀ x ∈ ls, x.size ≤ 4) (w : World) (hC : Cur w g A n c) (hB : StrK.SRow w B ls) (hg : ∀ b, B = some b → b.block ≠ g) :
    Calls Tryz.prog 40 #[.pointer (some ⟨g, 0, none⟩), .string s, .slice B k d] w (Turned (s.size + 4) w g A n c) := by
  have HS := Lib.hid hs
  go_enter Tryz.func40, Tryz.ntmps40
  go_wp2_with fail
  refine (below g A n c ((s.size : Int) + 1) (by omega) _ hC).mono ?_
  rintro e w1 ⟨x, hx0, hx1, _, rfl, hL1⟩
  have hx2 := hx1 (by omega)
  obtain ⟨j, rfl⟩ := Int.eq_ofNat_of_zero_le hx0
  have hj : (j : Int) ≤ (s.size : Int) := by omega
  have hjn : j ≤ s.size := by omega
  have R1 := hB.only hL1.2 (fun a y e e' => by injection e' with e'; subst e'; exact hg a e)
  clear hx1 hx2 hx0
  go_wp2_with fail
  refine (below g A n c 6 (by omega) _ hL1.1).mono ?_
  rintro e w2 ⟨y, hy0, hy1, _, rfl, hL2⟩
  have R2 := Lib.hid (R1.only hL2.2 (fun a y e e' => by injection e' with e'; subst e'; exact hg a e))
  have HL := Lib.hid (hL1.trans hL2)
  have h1 : (s.extract 0 j).size = j := by rw [ByteArray.size_extract]; omega
  have h2 : (s.extract j s.size).size = s.size - j := by rw [ByteArray.size_extract]; omega
  clear hy1 R1 hL1 hL2
  by_cases y0 : y = 0
  · subst y0
    have HJ := Lib.hid (And.intro h1 h2)
    have PK := Lib.hid (pick g A n c B k d ls hk hne hmax w2.drew (HL.out.1.keep (Below.refl _ _).drew) (R2.out.below (Below.refl _ _).drew) hg)
    have HM := Lib.hid hm
    have hcat : ∀ (t : ByteArray) (W : World), t.size ≤ 4 → Sem.run Tryz.prog (Op.stringOp .add (s.extract 0 j) t) W = .ok (.string (s.extract 0 j ++ t)) W ∧ Sem.run Tryz.prog (Op.stringOp .add (s.extract 0 j ++ t) (s.extract j s.size)) W = .ok (.string (s.extract 0 j ++ t ++ s.extract j s.size)) W := fun t W ht =>
      ⟨run_string_add_sum W _ _ (by rw [HJ.out.1]; omega), run_string_add_sum W _ _ (by rw [ByteArray.size_append, HJ.out.1, HJ.out.2]; omega)⟩
    have HCT := Lib.hid hcat
    clear h1 h2 hs hk hne hmax hm hcat hB hC
    go_wp2_with fail
    go_region_law (first
      | (go_simp; go_at_call 62; refine (Calls.mono PK.out) ?_; rintro e w4 ⟨t, ht, rfl, hL⟩; (have ht := HM.out t ht); (have c1 := fun W => (HCT.out t W ht).1); (have c2 := fun W => (HCT.out t W ht).2)))
    all_goals
      have F := Lib.hid (show Turned (s.size + 4) w g A n c (.returned (.string (s.extract 0 j ++ t ++ s.extract j s.size))) w4 from ⟨_, by rw [ByteArray.size_append, ByteArray.size_append, HJ.out.1, HJ.out.2]; omega, rfl, HL.out.trans (drew_left hL)⟩)
      clear c1 c2 ht hL
      go_wp2
      go_ret
      exact F.out
  · have y0' : (y == 0) = false := by simpa using y0
    by_cases y1 : y = 1
    · subst y1
      have F := Lib.hid (show Turned (s.size + 4) w g A n c (.returned (.string (s.extract 0 j))) w2 from ⟨_, by rw [h1]; omega, rfl, HL.out⟩)
      clear h1 h2 y0
      go_wp2
      go_ret
      exact F.out
    · have y1' : (y == 1) = false := by simpa using y1
      have F := Lib.hid (show Turned (s.size + 4) w g A n c (.returned (.string s)) w2 from ⟨_, by omega, rfl, HL.out⟩)
      clear h1 h2 y0 y1
      go_wp2
      go_ret
      exact F.out

/-- An expression and names. -/
def LinNames (w : World) (e : Ending) (w' : World) : Prop :=
  ∃ z zs B d ss C f lo hi, e = .returned (.tuple #[.agg #[.int .i64 z, .slice B zs.length d], .slice C ss.length f]) ∧ Any4 z zs d ∧ zs.length ≤ d ∧ ss.length ≤ 4 ∧ ss.length ≤ f ∧ (∀ s ∈ ss, s.size ≤ 2) ∧ Row lo hi w' B (IntK.iv zs) ∧ StrK.SRow w' C ss ∧ Below w.heap.size w w'
theorem names_fin {w wr : World} {lo hi d f : Nat} {B C : Option Addr} {z : Int} {zs : List Int} {ss : List ByteArray} (hb : Below w.heap.size w wr) (hB : Row lo hi wr B (IntK.iv zs)) (h1 : w.heap.size + 1 ≤ lo) (hC : StrK.SRow wr C ss) (h2 : ∀ a, C = some a → w.heap.size + 1 ≤ a.block) (hP : Any4 z zs d) (hd : zs.length ≤ d) (h4 : ss.length ≤ 4) (hf : ss.length ≤ f) (hs : ∀ s ∈ ss, s.size ≤ 2) :
    LinNames w (.returned (.tuple #[.agg #[.int .i64 z, .slice B zs.length d], .slice C ss.length f])) ((wr.setCell ⟨w.heap.size, 0, none⟩ (.int .i64 z)).setCell ⟨w.heap.size, 1, none⟩ (.slice B zs.length d)) := by
  have mm : Mod w.heap.size (w.heap.size + 1) wr ((wr.setCell ⟨w.heap.size, 0, none⟩ (.int .i64 z)).setCell ⟨w.heap.size, 1, none⟩ (.slice B zs.length d)) := (Mod.set _ (p := ⟨w.heap.size, 0, none⟩) (Nat.le_refl _) (Nat.lt_succ_self _) _).trans (Mod.set _ (p := ⟨w.heap.size, 1, none⟩) (Nat.le_refl _) (Nat.lt_succ_self _) _)
  exact ⟨z, zs, B, d, ss, C, f, lo, hi, rfl, hP, hd, h4, hf, hs, hB.keep mm (Or.inr h1), srow_mod hC mm (fun a e => Or.inr (h2 a e)), (hb.setCell (by simp) _).setCell (by simp) _⟩
theorem small_any {m d : Nat} {z : Int} {zs : List Int} (hm : m ≤ 4) (h : Small4 m z zs d) : Any4 z zs d := by
  obtain ⟨h1, h2, _, h3⟩ := h
  exact ⟨⟨by omega, by omega⟩, by omega, fun x hx => ⟨by have := h3 x hx; omega, by have := h3 x hx; omega⟩⟩

/-- A text and names. -/
def TextNames (w : World) (e : Ending) (w' : World) : Prop :=
  ∃ s ss C f, e = .returned (.tuple #[.string s, .slice C ss.length f]) ∧ s.size ≤ 200 ∧ ss.length ≤ 4 ∧ ss.length ≤ f ∧ (∀ x ∈ ss, x.size ≤ 2) ∧ StrK.SRow w' C ss ∧ Below w.heap.size w w'
def turns5 : List ByteArray := [⟨#[32]⟩, ⟨#[45]⟩, ⟨#[32, 43, 32, 49]⟩, ⟨#[110]⟩, ⟨#[48]⟩, ⟨#[50]⟩, ⟨#[32, 32]⟩]
theorem turns5_size : ∀ s ∈ turns5, s.size ≤ 4 := by decide
def turns5c : List ByteArray := [⟨#[32]⟩, ⟨#[61]⟩, ⟨#[62, 61, 32, 48]⟩, ⟨#[110]⟩, ⟨#[48]⟩]
theorem turns5c_size : ∀ s ∈ turns5c, s.size ≤ 4 := by decide
theorem C_len (t : List UInt8) (h : t.length ≤ 190) : (TextI.C t).length ≤ 195 := by
  unfold TextI.C
  split
  · simp
  · simp; omega

end Draw
end Go.Proofs.YtjjhpabmhnincaaGreatDoor
