/-
  The draws of the first chapter: integers, texts, separators.
-/
import Derived.Test.YtniolijdnkaokaaDoorDraw
import Derived.Test.YtniolijdnkaokaaDoorFmtSpec
import Derived.Lib.ItoaLen
namespace Go.Proofs.YtniolijdnkaokaaDoor
open Go.RowKit
namespace Draw

def SomeInt (w : World) (g : Nat) (A : Option Addr) (n c : Nat) (e : Ending) (w' : World) : Prop := ∃ x : Int, -9223372036854775808 ≤ x ∧ x ≤ 9223372036854775807 ∧ e = .returned (.int .i64 x) ∧ Left w g A n c w'

def wholes : List Int := [0, 1, -1, 9, 10, 999999, 1000000, 999999999999, 1000000000000, -999999999999, 9223372036854775807, -9223372036854775808]
theorem wholes_range : ∀ x ∈ wholes, -9223372036854775808 ≤ x ∧ x ≤ 9223372036854775807 := by decide

theorem left_keep {w w1 w2 : World} {g : Nat} {A : Option Addr} {n c : Nat} (hg : g < w.heap.size) (hb : Below w.heap.size w w1) (h : Left w1 g A n c w2) : Left w g A n c w2 :=
  ⟨h.1, StrK.only_trans (StrK.only_below hb _) h.2⟩

set_option maxHeartbeats 1000000 in
set_option maxRecDepth 100000 in
theorem whole (g : Nat) (A : Option Addr) (n c : Nat) (w : World) (hC : Cur w g A n c) :
    Calls Tryd.prog 25 #[.pointer (some ⟨g, 0, none⟩)] w (SomeInt w g A n c) := by
  go_enter Tryd.func25, Tryd.ntmps25
  go_wp2_with fail
  refine (below g A n c 3 (by omega) _ hC).mono ?_
  rintro e w1 ⟨x, hx0, hx1, _, rfl, hL⟩
  have hx3 : x = 0 ∨ x = 1 ∨ x = 2 := by have := hx1 (by omega); omega
  clear hx1
  rcases hx3 with rfl | rfl | rfl
  · go_wp2_with fail
    have hb : Below w1.heap.size w1 (w1.alloc (.cells (wholes.map (Value.int .i64)).toArray 3)) := (Below.refl _ _).alloc (Nat.le_refl _) _
    refine ((pickInt g A n c (some ⟨w1.heap.size, 0, none⟩) 12 12 wholes rfl (by decide) (by omega) _ (hL.1.keep hb) (irow_new w1 wholes 3) (fun b e => by injection e with e; subst e; have := hL.1.lt; show w1.heap.size ≠ g; omega))).mono ?_
    rintro e w2 ⟨y, hy, rfl, hL2⟩
    have hr := wholes_range y hy
    go_wp2
    go_ret
    exact ⟨y, hr.1, hr.2, rfl, hL.trans (left_keep hL.1.lt hb hL2)⟩
  · go_wp2_with fail
    refine (below g A n c 1000000 (by omega) _ hL.1).mono ?_
    rintro e w2 ⟨y, hy0, hy1, _, rfl, hL2⟩
    have hy2 := hy1 (by omega)
    go_wp2
    go_ret
    exact ⟨y - 500000, by omega, by omega, rfl, hL.trans hL2⟩
  · go_wp2_with fail
    refine (below g A n c 20 (by omega) _ hL.1).mono ?_
    rintro e w2 ⟨y, hy0, hy1, _, rfl, hL2⟩
    have hy2 := hy1 (by omega)
    go_wp2
    go_ret
    exact ⟨y, by omega, by omega, rfl, hL.trans hL2⟩

/-- A cursor's call leaves what was there before the cursor. -/
theorem below_left {w w1 w2 : World} {g : Nat} {A : Option Addr} {n c : Nat} (h : Below w.heap.size w w1) (hg : w.heap.size ≤ g) (hL : Left w1 g A n c w2) : Below w.heap.size w w2 :=
  StrK.below_only h hL.2 h.size (fun b e => by injection e with e; subst e; exact hg)

def AnInt (w : World) (e : Ending) (w' : World) : Prop := ∃ x : Int, -9223372036854775808 ≤ x ∧ x ≤ 9223372036854775807 ∧ e = .returned (.int .i64 x) ∧ Below w.heap.size w w'

set_option maxHeartbeats 400000 in
set_option maxRecDepth 100000 in
theorem drawFormatInt (A : Option Addr) (n c : Nat) (hn : n ≤ 1048576) (w : World) (hc : Code w A n) :
    Calls Tryd.prog 10 #[.slice A n c] w (AnInt w) := by
  go_enter Tryd.func10, Tryd.ntmps10
  go_wp2_with fail
  refine (new A n c hn _ hc).mono ?_
  rintro e w1 ⟨g, rfl, hC, hg, hb⟩
  go_wp2_with fail
  refine (whole g A n c _ hC).mono ?_
  rintro e w2 ⟨x, h0, h1, rfl, hL⟩
  go_wp2
  go_ret
  exact ⟨x, h0, h1, rfl, below_left hb hg hL⟩

/-- A text of at most so many bytes. -/
def AText (m : Nat) (w : World) (e : Ending) (w' : World) : Prop := ∃ s : ByteArray, s.size ≤ m ∧ e = .returned (.string s) ∧ Below w.heap.size w w'

def numTexts : List ByteArray := [⟨#[]⟩, ⟨#[48, 48]⟩, ⟨#[48, 49]⟩, ⟨#[45, 49]⟩, ⟨#[43, 49]⟩, ⟨#[120]⟩, ⟨#[57, 57, 57, 57, 57, 57]⟩, ⟨#[49, 48, 48, 48, 48, 48, 48]⟩, ⟨#[45, 48]⟩, ⟨#[45]⟩, ⟨#[32, 49]⟩, ⟨#[49, 32]⟩]
theorem numTexts_size : ∀ s ∈ numTexts, s.size ≤ 7 := by decide

theorem itoa_size (n : Int) (h0 : -9223372036854775808 ≤ n) (h1 : n ≤ 9223372036854775807) : (ByteArray.mk (Lib.itoa n).toArray).size ≤ 21 := by
  rw [Kit.size_mk]
  exact Lib.itoa_length_le n h0 h1

set_option maxHeartbeats 1000000 in
set_option maxRecDepth 100000 in
theorem drawParseNumber (A : Option Addr) (n c : Nat) (hn : n ≤ 1048576) (w : World) (hc : Code w A n) :
    Calls Tryd.prog 14 #[.slice A n c] w (AText 21 w) := by
  go_enter Tryd.func14, Tryd.ntmps14
  go_wp2_with fail
  refine (new A n c hn _ hc).mono ?_
  rintro e w1 ⟨g, rfl, hC, hg, hb⟩
  go_wp2_with fail
  refine (once g A n c 2 (by omega) _ hC).mono ?_
  rintro e w2 ⟨b, rfl, hL⟩
  have hb2 := below_left hb hg hL
  cases b
  · go_wp2_with fail
    have hba : Below w2.heap.size w2 (w2.alloc (.cells (numTexts.map Value.string).toArray 9)) := (Below.refl _ _).alloc (Nat.le_refl _) _
    refine ((pick g A n c (some ⟨w2.heap.size, 0, none⟩) 12 12 numTexts rfl (by decide) (by omega) _ (hL.1.keep hba) (row_new w2 numTexts 9) (fun b e => by injection e with e; subst e; have := hL.1.lt; show w2.heap.size ≠ g; omega))).mono ?_
    rintro e w3 ⟨s, hs, rfl, hL2⟩
    have hsz := numTexts_size s hs
    go_wp2
    go_ret
    exact ⟨s, by omega, rfl, below_left hb2 hg (left_keep hL.1.lt hba hL2)⟩
  · go_wp2_with fail
    refine (whole g A n c _ hL.1).mono ?_
    rintro e w3 ⟨x, h0, h1, rfl, hL2⟩
    have hb3 := below_left hb2 hg hL2
    go_wp2_with fail
    refine (FmtS.any x h0 h1 _).mono ?_
    rintro e w4 ⟨rfl, hb4⟩
    go_wp2
    go_ret
    exact ⟨_, itoa_size x h0 h1, rfl, hb3.trans (hb4.mono hb3.size)⟩

def AByte (m : Nat) (w : World) (e : Ending) (w' : World) : Prop := ∃ (s : ByteArray) (b : UInt8), s.size ≤ m ∧ e = .returned (.tuple #[.string s, .int .u8 (b.toNat : Int)]) ∧ Below w.heap.size w w'
def splitTexts : List ByteArray := [⟨#[]⟩, ⟨#[97]⟩, ⟨#[97, 44, 98]⟩, ⟨#[44]⟩, ⟨#[97, 44, 44, 98, 44]⟩, ⟨#[97, 10, 98, 10]⟩]
theorem splitTexts_size : ∀ s ∈ splitTexts, s.size ≤ 5 := by decide
def seps : List Int := [44, 10]
theorem seps_of : ∀ x ∈ seps, x = 44 ∨ x = 10 := by decide

set_option maxHeartbeats 1000000 in
set_option maxRecDepth 100000 in
theorem drawSplitByte (A : Option Addr) (n c : Nat) (hn : n ≤ 1048576) (w : World) (hc : Code w A n) :
    Calls Tryd.prog 17 #[.slice A n c] w (AByte 5 w) := by
  go_enter Tryd.func17, Tryd.ntmps17
  go_wp2_with fail
  refine (new A n c hn _ hc).mono ?_
  rintro e w1 ⟨g, rfl, hC, hg, hb⟩
  go_wp2_with fail
  have hba : Below w1.heap.size w1 (w1.alloc (.cells (splitTexts.map Value.string).toArray 9)) := (Below.refl _ _).alloc (Nat.le_refl _) _
  refine ((pick g A n c (some ⟨w1.heap.size, 0, none⟩) 6 6 splitTexts rfl (by decide) (by omega) _ (hC.keep hba) (row_new w1 splitTexts 9) (fun b e => by injection e with e; subst e; have := hC.lt; show w1.heap.size ≠ g; omega))).mono ?_
  rintro e w2 ⟨s, hs, rfl, hL⟩
  have hsz := splitTexts_size s hs
  have hb2 := below_left hb hg (left_keep hC.lt hba hL)
  clear hs
  go_wp2_with fail
  have hbb : Below w2.heap.size w2 (w2.alloc (.cells (seps.map (Value.int .i64)).toArray 3)) := (Below.refl _ _).alloc (Nat.le_refl _) _
  refine ((pickInt g A n c (some ⟨w2.heap.size, 0, none⟩) 2 2 seps rfl (by decide) (by omega) _ (hL.1.keep hbb) (irow_new w2 seps 3) (fun b e => by injection e with e; subst e; have := hL.1.lt; show w2.heap.size ≠ g; omega))).mono ?_
  rintro e w3 ⟨x, hx, rfl, hL2⟩
  have hb3 := below_left hb2 hg (left_keep hL.1.lt hbb hL2)
  rcases seps_of x hx with rfl | rfl
  · go_wp2
    go_ret2
    exact ⟨s, 44, hsz, rfl, hb3⟩
  · go_wp2
    go_ret2
    exact ⟨s, 10, hsz, rfl, hb3⟩
end Draw
end Go.Proofs.YtniolijdnkaokaaDoor
