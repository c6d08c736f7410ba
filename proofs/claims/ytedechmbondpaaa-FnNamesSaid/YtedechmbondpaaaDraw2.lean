/-
  The draws of the second chapter: names, and lists of them.
-/
import Derived.Test.YtedechmbondpaaaDraw
import Derived.Laws.AppendOwn
import Derived.Lib.Hide
namespace Go.Proofs.Ytedechmbondpaaa
open Go.RowKit
namespace Draw

def nameTexts : List ByteArray := [⟨#[110]⟩, ⟨#[109]⟩, ⟨#[120, 115]⟩, ⟨#[121, 115]⟩, ⟨#[104]⟩, ⟨#[116, 115]⟩, ⟨#[107]⟩, ⟨#[114]⟩]
theorem nameTexts_size : ∀ s ∈ nameTexts, s.size ≤ 9 := by decide
def anyTexts : List ByteArray := [⟨#[]⟩, ⟨#[49, 97]⟩, ⟨#[97, 49]⟩, ⟨#[97, 98, 99, 100, 101, 102, 103, 104]⟩, ⟨#[97, 98, 99, 100, 101, 102, 103, 104, 105]⟩, ⟨#[105, 102]⟩, ⟨#[110, 105, 108]⟩, ⟨#[114, 117, 108, 101]⟩, ⟨#[115, 117, 109, 115]⟩, ⟨#[65]⟩, ⟨#[97, 95, 98]⟩, ⟨#[102, 117, 110]⟩]
theorem anyTexts_size : ∀ s ∈ anyTexts, s.size ≤ 9 := by decide

def SomeText (m : Nat) (w : World) (g : Nat) (A : Option Addr) (n c : Nat) (e : Ending) (w' : World) : Prop := ∃ s : ByteArray, s.size ≤ m ∧ e = .returned (.string s) ∧ Left w g A n c w'

set_option maxHeartbeats 1000000 in
set_option maxRecDepth 100000 in
theorem l2Name (g : Nat) (A : Option Addr) (n c : Nat) (w : World) (hC : Cur w g A n c) :
    Calls Try.prog 54 #[.pointer (some ⟨g, 0, none⟩)] w (SomeText 9 w g A n c) := by
  go_enter Try.func54, Try.ntmps54
  go_wp2_with fail
  have hba : Below w.heap.size w (w.alloc (.cells (nameTexts.map Value.string).toArray 9)) := (Below.refl _ _).alloc (Nat.le_refl _) _
  refine ((pick g A n c (some ⟨w.heap.size, 0, none⟩) 8 8 nameTexts rfl (by decide) (by omega) _ (hC.keep hba) (row_new w nameTexts 9) (fun b e => by injection e with e; subst e; have := hC.lt; show w.heap.size ≠ g; omega))).mono ?_
  rintro e w3 ⟨s, hs, rfl, hL2⟩
  have hsz := nameTexts_size s hs
  go_wp2
  go_ret
  exact ⟨s, by omega, rfl, left_keep hC.lt hba hL2⟩

set_option maxHeartbeats 1000000 in
set_option maxRecDepth 100000 in
theorem l2Any (g : Nat) (A : Option Addr) (n c : Nat) (w : World) (hC : Cur w g A n c) :
    Calls Try.prog 42 #[.pointer (some ⟨g, 0, none⟩)] w (SomeText 9 w g A n c) := by
  go_enter Try.func42, Try.ntmps42
  go_wp2_with fail
  refine (once g A n c 2 (by omega) _ hC).mono ?_
  rintro e w2 ⟨b, rfl, hL⟩
  cases b
  · go_wp2_with fail
    have hba : Below w2.heap.size w2 (w2.alloc (.cells (anyTexts.map Value.string).toArray 9)) := (Below.refl _ _).alloc (Nat.le_refl _) _
    refine ((pick g A n c (some ⟨w2.heap.size, 0, none⟩) 12 12 anyTexts rfl (by decide) (by omega) _ (hL.1.keep hba) (row_new w2 anyTexts 9) (fun b e => by injection e with e; subst e; have := hL.1.lt; show w2.heap.size ≠ g; omega))).mono ?_
    rintro e w3 ⟨s, hs, rfl, hL2⟩
    have hsz := anyTexts_size s hs
    go_wp2
    go_ret
    exact ⟨s, by omega, rfl, hL.trans (left_keep hL.1.lt hba hL2)⟩
  · go_wp2_with fail
    refine (l2Name g A n c _ hL.1).mono ?_
    rintro e w3 ⟨s, hs, rfl, hL2⟩
    go_wp2
    go_ret
    exact ⟨s, hs, rfl, hL.trans hL2⟩

/-- A cursor stays where what was written is younger than it. -/
theorem Cur.grown {w w' : World} {g : Nat} {A : Option Addr} {n c : Nat} {row : Option Nat} (h : Cur w g A n c) (hg : w.grownBy w' row) (hr : ∀ r, row = some r → g < r) : Cur w' g A n c := by
  have hlt := h.lt
  obtain ⟨hc, ha, i, x, h1, h2, hh⟩ := h
  have hne : some g ≠ row := fun e => by have := hr g e.symm; omega
  refine ⟨fun hn => ?_, ha, i, x, h1, h2, by rw [hg.block g hlt hne]; exact hh⟩
  obtain ⟨b, o, rfl, hbl, hcell⟩ := hc hn
  have hbg := ha _ rfl hn
  refine ⟨b, o, rfl, Nat.lt_of_lt_of_le hbl hg.size, fun j hj => ?_⟩
  obtain ⟨y, h0, h255, hy⟩ := hcell j hj
  refine ⟨y, h0, h255, ?_⟩
  rw [World.cell?_of_block (w := w) (hg.block b hbl (fun e => by have := hr b e.symm; have e2 : (⟨b, o, none⟩ : Addr).block = b := rfl; omega))]
  exact hy
theorem only_grown {w w1 w2 : World} {g : Nat} {row : Option Nat} (h : StrK.Only w w1 (some ⟨g, 0, none⟩)) (hg : w1.grownBy w2 row) (hr : ∀ r, row = some r → w.heap.size ≤ r) : StrK.Only w w2 (some ⟨g, 0, none⟩) :=
  ⟨hg.os.trans h.os, hg.tape.trans h.tape, hg.output.trans h.output, Nat.le_trans h.size hg.size, fun i hi hn => (hg.block i (Nat.lt_of_lt_of_le hi h.size) (fun e => by have := hr i e.symm; omega)).trans (h.block i hi hn)⟩

/-- A list of at most so many texts of at most so many bytes. -/
def SomeTexts (k m : Nat) (w : World) (g : Nat) (A : Option Addr) (n c : Nat) (e : Ending) (w' : World) : Prop :=
  ∃ (ss : List ByteArray) (B : Option Addr) (d : Nat), ss.length ≤ k ∧ (∀ s ∈ ss, s.size ≤ m) ∧ e = .returned (.slice B ss.length d) ∧ StrK.SRow w' B ss ∧ Left w g A n c w'
theorem textInfo : (Try.prog.info? 9).map (fun i => (i.zero, i.size, i.bytes)) = some (some (.string ByteArray.empty), 1, 16) := by kernel_rfl

set_option maxHeartbeats 1000000 in
set_option maxRecDepth 100000 in
theorem l2List (g : Nat) (A : Option Addr) (n c : Nat) (w : World) (hC : Cur w g A n c) :
    Calls Try.prog 36 #[.pointer (some ⟨g, 0, none⟩)] w (SomeTexts 5 9 w g A n c) := by
  obtain ⟨i0, hi, hz0, hz1, hz2⟩ := info_parts textInfo
  have hgl := hC.lt
  have hba : Below w.heap.size w (w.alloc (.cells #[] 9)) := (Below.refl _ _).alloc (Nat.le_refl _) _
  go_enter Try.func36, Try.ntmps36
  go_wp2_with fail
  refine (below g A n c 6 (by omega) _ (hC.keep hba)).mono ?_
  rintro e w1 ⟨x, hx0, hx1, _, rfl, hL⟩
  have hx5 : x < 6 := hx1 (by omega)
  have hL1 := left_keep hgl hba hL
  have hown1 : w1.ownsRow w.heap.size 9 1 (.slice (some ⟨w.heap.size, 0, none⟩) 0 0) 0 [] := by
    refine World.ownsRow.kept (w := w.alloc (.cells #[] 9)) ⟨by simp, Or.inr ⟨_, 0, #[], rfl, Nat.le_refl _, heap_alloc_new _ _, by simp, by simp, by simp, by simp⟩⟩ (row := some g) hL.2 (Or.inr ?_)
    show some w.heap.size ≠ some g
    intro e; injection e with e; omega
  have HL1 := Lib.hid (And.intro hL1 hown1)
  clear hx1 hL hL1 hown1 hba
  go_wp2
  go_loopw [3, 5] (fun v i wr => ∃ (k : Nat) (ss : List ByteArray), (k : Int) ≤ x ∧ i = .int .i64 k ∧ ss.length = k ∧ (∀ s ∈ ss, s.size ≤ 9) ∧
      wr.ownsRow w.heap.size 9 1 v ss.length (ss.map Value.string) ∧ Left w g A n c wr) (fun _ i _ => x.toNat - (intOf i).toNat)
  case atStart => exact ⟨0, [], by omega, rfl, rfl, (fun s hs => by cases hs), HL1.out.2, HL1.out.1⟩
  case round =>
    obtain ⟨k, ss, hk, rfl, hlen, hsz, hown, hL⟩ := hrel
    have HS := Lib.hid hsz
    have HO := Lib.hid hown
    have HN := Lib.hid hlen
    clear hsz hown
    by_cases hlt : (k : Int) < x
    · have hk5 : ss.length ≤ 5 := by omega
      clear hlen
      go_wp2_with fail
      refine (l2Any g A n c _ hL.1).mono ?_
      rintro e w2 ⟨s, hs, rfl, hL2⟩
      have hown2 := HO.out.kept hL2.2 (by
        by_cases h : u3.ownBlock = none
        · exact Or.inl h
        · refine Or.inr fun e => ?_
          have := (HO.out.lt g e).1
          omega)
      have hLL := hL.trans hL2
      have hs2 : w.heap.size ≤ w2.heap.size := hLL.2.size
      go_wp2_with (at_builtin; refine wpList_append_own _ rfl (.tmp 14) (.tmp 17) 24 rfl w.heap.size 9 i0 (.string ByteArray.empty) 1 16 Try.underlying24 hi hz0 hz1 hz2 rfl (by decide) _ _ _ rfl (hown2.alloc _) ⟨w2.heap.size, 0, none⟩ 1 1 [.string s] rfl rfl (cell_one_new _ _ _) (by simp [Value.oneCell']) (by unfold maxLen; omega) (by omega) (by simp <;> omega) ?_; intro v4 w4 hown4 hgrow _)
      have hr : ∀ r, u3.ownBlock = some r → w.heap.size ≤ r := fun r e => (hown2.lt r e).1
      have hb4 : Below w2.heap.size w2 (w2.alloc (.cells #[.string s] 9)) := (Below.refl _ _).alloc (Nat.le_refl _) _
      have hL4 : Left w g A n c w4 := ⟨(hLL.1.keep hb4).grown hgrow (fun r e => by have := hr r e; omega), only_grown (StrK.only_trans hLL.2 (StrK.only_below hb4 _)) hgrow hr⟩
      have hown5 : w4.ownsRow w.heap.size 9 1 v4 (ss ++ [s]).length ((ss ++ [s]).map Value.string) := by simpa using hown4
      have hsz5 : ∀ t ∈ ss ++ [s], t.size ≤ 9 := fun t ht => by
        rcases List.mem_append.1 ht with ht | ht
        · exact HS.out t ht
        · rw [List.mem_singleton.1 ht]; exact hs
      have hl5 : (ss ++ [s]).length = k + 1 := by have := HN.out; simp; omega
      clear hown4 hown2 hgrow hr hLL
      generalize ss ++ [s] = ss2 at *
      have HN5 := Lib.hid hl5
      clear hl5
      go_wp2
      go_roundw
      case rel => exact ⟨k + 1, ss2, by omega, by go_num, HN5.out, hsz5, hown5, hL4⟩
      case measure => simp [intOf]; omega
    · clear hlen
      go_wp2
      go_ret
      obtain ⟨B, d, rfl, h1, _⟩ := StrK.of_own HO.out
      exact ⟨ss, B, d, by have := HN.out; omega, HS.out, rfl, h1, hL⟩

def ATexts (k m : Nat) (w : World) (e : Ending) (w' : World) : Prop :=
  ∃ (ss : List ByteArray) (B : Option Addr) (d : Nat), ss.length ≤ k ∧ (∀ s ∈ ss, s.size ≤ m) ∧ e = .returned (.slice B ss.length d) ∧ StrK.SRow w' B ss ∧ Below w.heap.size w w'

theorem drawSortNames (A : Option Addr) (n c : Nat) (hn : n ≤ 1048576) (w : World) (hc : Code w A n) :
    Calls Try.prog 12 #[.slice A n c] w (ATexts 5 9 w) := by
  go_enter Try.func12, Try.ntmps12
  go_wp2_with fail
  refine (new A n c hn _ hc).mono ?_
  rintro e w1 ⟨g, rfl, hC, hg, hb⟩
  go_wp2_with fail
  refine (l2List g A n c _ hC).mono ?_
  rintro e w2 ⟨ss, B, d, h1, h2, rfl, h3, hL⟩
  have H2 := Lib.hid h2
  clear h2
  go_wp2
  go_ret
  exact ⟨ss, B, d, h1, H2.out, rfl, h3, below_left hb hg hL⟩
theorem drawIsValidName (A : Option Addr) (n c : Nat) (hn : n ≤ 1048576) (w : World) (hc : Code w A n) :
    Calls Try.prog 18 #[.slice A n c] w (AText 9 w) := by
  go_enter Try.func18, Try.ntmps18
  go_wp2_with fail
  refine (new A n c hn _ hc).mono ?_
  rintro e w1 ⟨g, rfl, hC, hg, hb⟩
  go_wp2_with fail
  refine (l2Any g A n c _ hC).mono ?_
  rintro e w2 ⟨s, hs, rfl, hL⟩
  go_wp2
  go_ret
  exact ⟨s, hs, rfl, below_left hb hg hL⟩
theorem drawIsListName (A : Option Addr) (n c : Nat) (hn : n ≤ 1048576) (w : World) (hc : Code w A n) :
    Calls Try.prog 22 #[.slice A n c] w (AText 9 w) := by
  go_enter Try.func22, Try.ntmps22
  go_wp2_with fail
  refine (new A n c hn _ hc).mono ?_
  rintro e w1 ⟨g, rfl, hC, hg, hb⟩
  go_wp2_with fail
  refine (l2Any g A n c _ hC).mono ?_
  rintro e w2 ⟨s, hs, rfl, hL⟩
  go_wp2
  go_ret
  exact ⟨s, hs, rfl, below_left hb hg hL⟩
end Draw
end Go.Proofs.Ytedechmbondpaaa
