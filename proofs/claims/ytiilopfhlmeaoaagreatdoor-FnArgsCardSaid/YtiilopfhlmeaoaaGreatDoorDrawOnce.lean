import Derived.Test.YtiilopfhlmeaoaaGreatDoorProg
import Derived.Test.YtiilopfhlmeaoaaGreatDoorStrRow
import Derived.Lib.Hide
import Derived.Deep.QuietTactic
import Derived.BigQuiet
import Derived.Laws.BitsAllLaws
/-
  The model's source of drawn arguments: a cursor over the bytes of a code ('Cur'), and what each of its functions hands back: some value of its range.
-/
namespace Go.Proofs.YtiilopfhlmeaoaaGreatDoor
open Go.RowKit
namespace Draw

/-- The slice with this address holds n bytes. -/
def Code (w : World) (A : Option Addr) (n : Nat) : Prop :=
  0 < n → ∃ b o, A = some ⟨b, o, none⟩ ∧ b < w.heap.size ∧ ∀ j, j < n → ∃ x : Int, 0 ≤ x ∧ x ≤ 255 ∧ w.cell? ⟨b, o + j, none⟩ = some (.int .u8 x)

/-- Block g is a cursor over these bytes. -/
def Cur (w : World) (g : Nat) (A : Option Addr) (n c : Nat) : Prop :=
  Code w A n ∧ (∀ a, A = some a → 0 < n → a.block < g) ∧ ∃ (i : Nat) (h : Int), i ≤ n ∧ n ≤ 1048576 ∧ w.heap[g]? = some (.cells #[.slice A n c, .int .i64 i, .int .i64 h] 69 (0, 0))

theorem Code.only {w w' : World} {A B : Option Addr} {n : Nat} (h : Code w A n) (ho : StrK.Only w w' B) (hne : ∀ a b, A = some a → B = some b → 0 < n → a.block ≠ b.block) : Code w' A n := fun hn => by
  obtain ⟨b, o, rfl, hlt, hc⟩ := h hn
  refine ⟨b, o, rfl, Nat.lt_of_lt_of_le hlt ho.size, fun j hj => ?_⟩
  obtain ⟨x, h0, h1, hx⟩ := hc j hj
  exact ⟨x, h0, h1, StrK.cell_only hx ho (fun y e => hne _ y rfl e hn)⟩

theorem Code.keep {w w' : World} {A : Option Addr} {n : Nat} (h : Code w A n) (hb : Below w.heap.size w w') : Code w' A n := h.only (StrK.only_below hb none) (fun _ _ _ e => by cases e)

theorem Cur.lt {w : World} {g : Nat} {A : Option Addr} {n c : Nat} (h : Cur w g A n c) : g < w.heap.size := by
  obtain ⟨_, _, _, _, _, _, hh⟩ := h
  exact (Array.getElem?_eq_some_iff.1 hh).1

/-- What a function of the cursor leaves: the cursor, and nothing else turned. -/
def Left (w : World) (g : Nat) (A : Option Addr) (n c : Nat) (w' : World) : Prop := Cur w' g A n c ∧ StrK.Only w w' (some ⟨g, 0, none⟩)

theorem Left.trans {w w1 w2 : World} {g : Nat} {A : Option Addr} {n c : Nat} (h : Left w g A n c w1) (k : Left w1 g A n c w2) : Left w g A n c w2 := ⟨k.1, StrK.only_trans h.2 k.2⟩

theorem Cur.keep {w w' : World} {g : Nat} {A : Option Addr} {n c : Nat} (h : Cur w g A n c) (hb : Below w.heap.size w w') : Cur w' g A n c := by
  have hlt := h.lt
  obtain ⟨hc, ha, i, x, h1, h2, hh⟩ := h
  refine ⟨hc.only (StrK.only_below hb none) (fun _ _ _ e => by cases e), ha, i, x, h1, h2, ?_⟩
  rw [hb.block g hlt]; exact hh

def Int255 (w : World) (g : Nat) (A : Option Addr) (n c : Nat) (e : Ending) (w' : World) : Prop := ∃ x : Int, 0 ≤ x ∧ x ≤ 255 ∧ e = .returned (.int .i64 x) ∧ Left w g A n c w'

theorem and_255 (e : Int) : 0 ≤ bits .and .i64 e 255 ∧ bits .and .i64 e 255 ≤ 255 := by
  have h : bits .and .i64 e 255 = IntKind.i64.wrap ((BitVec.ofInt 64 e &&& BitVec.ofInt 64 255).toNat : Int) := rfl
  rw [h, BitVec.toNat_and]
  have h2 : (BitVec.ofInt 64 255).toNat = 255 := rfl
  rw [h2]
  have h3 := Nat.and_le_right (n := (BitVec.ofInt 64 e).toNat) (m := 255)
  rw [IntKind.wrap_i64]
  omega

theorem block_set2 {w : World} {g : Nat} {v0 v1 v2 : Value} {T : TypeId} (h : w.heap[g]? = some (.cells #[v0, v1, v2] T (0, 0))) (u : Value) : (w.setCell ⟨g, 2, none⟩ u).heap[g]? = some (.cells #[v0, v1, u] T (0, 0)) := by
  simp [World.setCell, Array.getElem?_modify, h]
theorem block_set1 {w : World} {g : Nat} {v0 v1 v2 : Value} {T : TypeId} (h : w.heap[g]? = some (.cells #[v0, v1, v2] T (0, 0))) (u : Value) : (w.setCell ⟨g, 1, none⟩ u).heap[g]? = some (.cells #[v0, u, v2] T (0, 0)) := by
  simp [World.setCell, Array.getElem?_modify, h]

theorem left_of {w w' : World} {g : Nat} {A : Option Addr} {n c i : Nat} {h : Int} (hcode : Code w A n) (hag : ∀ a, A = some a → 0 < n → a.block < g) (ho : StrK.Only w w' (some ⟨g, 0, none⟩)) (hi : i ≤ n) (hn : n ≤ 1048576)
    (hblk : w'.heap[g]? = some (.cells #[.slice A n c, .int .i64 i, .int .i64 h] 69 (0, 0))) : Left w g A n c w' :=
  ⟨⟨hcode.only ho (fun a b e e' hn => by injection e' with e'; subst e'; have := hag a e hn; show a.block ≠ g; omega), hag, i, h, hi, hn, hblk⟩, ho⟩

theorem only_one {w w' : World} {g : Nat} {u : Value} (ho : w'.os = w.os) (ht : w'.tape = w.tape) (hu : w'.output = w.output) (hh : w'.heap = (w.setCell ⟨g, 2, none⟩ u).heap) : StrK.Only w w' (some ⟨g, 0, none⟩) :=
  ⟨ho, ht, hu, by rw [hh]; simp [World.setCell], fun i _ hn => by rw [hh]; exact Below.heap_setCell _ _ _ _ (by rintro rfl; exact hn rfl)⟩
theorem only_two {w w' : World} {g : Nat} {u v : Value} (ho : w'.os = w.os) (ht : w'.tape = w.tape) (hu : w'.output = w.output) (hh : w'.heap = ((w.setCell ⟨g, 2, none⟩ u).setCell ⟨g, 1, none⟩ v).heap) : StrK.Only w w' (some ⟨g, 0, none⟩) :=
  ⟨ho, ht, hu, by rw [hh]; simp [World.setCell], fun i _ hn => by rw [hh, Below.heap_setCell _ _ _ _ (by rintro rfl; exact hn rfl)]; exact Below.heap_setCell _ _ _ _ (by rintro rfl; exact hn rfl)⟩

set_option maxHeartbeats 1000000 in
set_option maxRecDepth 100000 in
theorem byte (g : Nat) (A : Option Addr) (n c : Nat) (w : World) (hC : Cur w g A n c) :
    Calls Tryz.prog 55 #[.pointer (some ⟨g, 0, none⟩)] w (Int255 w g A n c) := by
  obtain ⟨hcode, hag, i, h, hin, hn, hblk⟩ := hC
  have c0 : w.cell? ⟨g, 0, none⟩ = some (.slice A n c) := by rw [cell_of_row w g 0 _ _ _ hblk]; rfl
  have c1 : w.cell? ⟨g, 1, none⟩ = some (.int .i64 i) := by rw [cell_of_row w g 1 _ _ _ hblk]; rfl
  have c2 : w.cell? ⟨g, 2, none⟩ = some (.int .i64 h) := by rw [cell_of_row w g 2 _ _ _ hblk]; rfl
  have f1 : w.frozen? ⟨g, 1, none⟩ = false := by simp [World.frozen?, hblk]
  have f2 : w.frozen? ⟨g, 2, none⟩ = false := by simp [World.frozen?, hblk]
  have hi0 : (0 : Int) ≤ (i : Int) := by omega
  have HB := Lib.hid hblk
  clear hblk
  by_cases hlt : i < n
  · obtain ⟨b, o, rfl, hbl, hcell⟩ := hcode (by omega)
    obtain ⟨x, hx0, hx1, hx⟩ := hcell i hlt
    have hbg : b ≠ g := by have := hag _ rfl (by omega); simp at this; omega
    have hi1 : (i : Int) < (n : Int) := by omega
    go_enter Tryz.func55, Tryz.ntmps55
    go_wp2
    go_quiet (fail)
    have hz := and_255 (bits BinOp.xor IntKind.i64 (wrap64 (wrap64 (h * 6364136223846793005) + 1442695040888963407) / 8589934592) (wrap64 (wrap64 (h * 6364136223846793005) + 1442695040888963407) / 35184372088832))
    generalize bits BinOp.and IntKind.i64 (bits BinOp.xor IntKind.i64 (wrap64 (wrap64 (h * 6364136223846793005) + 1442695040888963407) / 8589934592) (wrap64 (wrap64 (h * 6364136223846793005) + 1442695040888963407) / 35184372088832)) 255 = z at *
    obtain ⟨hz0, hz1⟩ := hz
    generalize wrap64 (wrap64 (h * 6364136223846793005) + 1442695040888963407) = h2 at *
    go_wp2
    go_quiet (fail)
    go_wp2
    go_quiet (fail)
    go_wp2
    have hy := and_255 (z + x)
    generalize bits BinOp.and IntKind.i64 (z + x) 255 = y at *
    go_ret
    exact ⟨y, hy.1, hy.2, rfl, left_of (i := i + 1) (h := h2) hcode hag (only_two (u := .int .i64 h2) (v := .int .i64 ((i : Int) + 1)) rfl rfl rfl rfl) (by omega) hn (block_set1 (block_set2 HB.out (.int .i64 h2)) (.int .i64 ((i : Int) + 1)))⟩
  · have hin' : ¬ (i : Int) < (n : Int) := by omega
    go_enter Tryz.func55, Tryz.ntmps55
    go_wp2
    go_quiet (fail)
    have hz := and_255 (bits BinOp.xor IntKind.i64 (wrap64 (wrap64 (h * 6364136223846793005) + 1442695040888963407) / 8589934592) (wrap64 (wrap64 (h * 6364136223846793005) + 1442695040888963407) / 35184372088832))
    generalize bits BinOp.and IntKind.i64 (bits BinOp.xor IntKind.i64 (wrap64 (wrap64 (h * 6364136223846793005) + 1442695040888963407) / 8589934592) (wrap64 (wrap64 (h * 6364136223846793005) + 1442695040888963407) / 35184372088832)) 255 = z at *
    generalize wrap64 (wrap64 (h * 6364136223846793005) + 1442695040888963407) = h2 at *
    go_wp2
    go_quiet (fail)
    go_wp2
    go_ret
    exact ⟨z, hz.1, hz.2, rfl, left_of (i := i) (h := h2) hcode hag (only_one (u := .int .i64 h2) rfl rfl rfl rfl) hin hn (block_set2 HB.out (.int .i64 h2))⟩

def Upto (w : World) (g : Nat) (A : Option Addr) (n c : Nat) (m : Int) (e : Ending) (w' : World) : Prop := ∃ x : Int, 0 ≤ x ∧ (0 < m → x < m) ∧ (m ≤ 0 → x = 0) ∧ e = .returned (.int .i64 x) ∧ Left w g A n c w'

set_option maxHeartbeats 1000000 in
set_option maxRecDepth 100000 in
theorem below (g : Nat) (A : Option Addr) (n c : Nat) (m : Int) (hm : m ≤ 1000000000) (w : World) (hC : Cur w g A n c) :
    Calls Tryz.prog 36 #[.pointer (some ⟨g, 0, none⟩), .int .i64 m] w (Upto w g A n c m) := by
  have HC := Lib.hid hC
  clear hC
  by_cases h0 : m ≤ 0
  · go_enter Tryz.func36, Tryz.ntmps36
    go_wp2_with fail
    go_ret
    exact ⟨0, by omega, fun h => by omega, fun _ => rfl, rfl, HC.out, StrK.only_refl _ _⟩
  · by_cases h256 : m ≤ 256
    · go_enter Tryz.func36, Tryz.ntmps36
      go_wp2_with fail
      refine (byte g A n c _ HC.out).mono ?_
      rintro e w1 ⟨x, hx0, hx1, rfl, hL⟩
      go_wp2
      go_ret
      exact ⟨x % m, Int.emod_nonneg _ (by omega), fun h => Int.emod_lt_of_pos _ h, fun h => by omega, rfl, hL⟩
    · go_enter Tryz.func36, Tryz.ntmps36
      go_wp2_with fail
      refine (byte g A n c _ HC.out).mono ?_
      rintro e w1 ⟨x1, hx1, hx1', rfl, hL1⟩
      go_wp2_with fail
      refine (byte g A n c _ hL1.1).mono ?_
      rintro e w2 ⟨x2, hx2, hx2', rfl, hL2⟩
      go_wp2_with fail
      refine (byte g A n c _ hL2.1).mono ?_
      rintro e w3 ⟨x3, hx3, hx3', rfl, hL3⟩
      go_wp2_with fail
      refine (byte g A n c _ hL3.1).mono ?_
      rintro e w4 ⟨x4, hx4, hx4', rfl, hL4⟩
      go_wp2
      go_ret
      exact ⟨_, Int.emod_nonneg _ (by omega), fun h => Int.emod_lt_of_pos _ h, fun h => by omega, rfl, ((hL1.trans hL2).trans hL3).trans hL4⟩

theorem and_30 (e : Int) : 0 ≤ bits .and .i64 e 1073741823 ∧ bits .and .i64 e 1073741823 ≤ 1073741823 := by
  have h : bits .and .i64 e 1073741823 = IntKind.i64.wrap ((BitVec.ofInt 64 e &&& BitVec.ofInt 64 1073741823).toNat : Int) := rfl
  rw [h, BitVec.toNat_and]
  have h2 : (BitVec.ofInt 64 1073741823).toNat = 1073741823 := rfl
  rw [h2]
  have h3 := Nat.and_le_right (n := (BitVec.ofInt 64 e).toNat) (m := 1073741823)
  rw [IntKind.wrap_i64]
  omega

def Made (w : World) (A : Option Addr) (n c : Nat) (e : Ending) (w' : World) : Prop := ∃ g, e = .returned (.pointer (some ⟨g, 0, none⟩)) ∧ Cur w' g A n c ∧ w.heap.size ≤ g ∧ Below w.heap.size w w'

set_option maxHeartbeats 1000000 in
set_option maxRecDepth 100000 in
theorem new (A : Option Addr) (n c : Nat) (hn : n ≤ 1048576) (w : World) (hc : Code w A n) :
    Calls Tryz.prog 19 #[.slice A n c] w (Made w A n c) := by
  go_enter Tryz.func19, Tryz.ntmps19
  go_wp2
  go_loopw [3, 4] (fun x i wr => ∃ (k : Nat) (h : Int), k ≤ n ∧ i = .int .i64 k ∧ 0 ≤ h ∧ h ≤ 1100000000 ∧ x = .int .i64 h ∧ Below w.heap.size w wr) (fun _ i _ => n - (intOf i).toNat)
  case atStart => exact ⟨0, _, Nat.zero_le _, rfl, by omega, by omega, rfl, Below.refl _ _⟩
  case round =>
    obtain ⟨k, h, hk, rfl, hh0, hh1, rfl, hb⟩ := hrel
    by_cases hlt : k < n
    · by_cases h4 : k < 4000
      · obtain ⟨b, o, rfl, hbl, hcell⟩ := hc (by omega)
        obtain ⟨x, hx0, hx1, hx⟩ := hcell k hlt
        have hx' : wr.cell? ⟨b, o + k, none⟩ = some (.int .u8 x) := by rw [hb.cell (by exact hbl)]; exact hx
        clear hx hcell hc
        have hk4 : (k : Int) < 4000 := by omega
        go_wp2
        have hz := and_30 (h * 131 + x + 7)
        generalize bits BinOp.and IntKind.i64 (h * 131 + x + 7) 1073741823 = z at *
        go_roundw
        case rel => exact ⟨k + 1, z, by omega, by go_num, hz.1, by omega, rfl, hb⟩
        case measure => simp [intOf]; omega
      · have hk4 : ¬ (k : Int) < 4000 := by omega
        go_wp2
        go_ret
        exact ⟨wr.heap.size, rfl, ⟨fun hn0 => by
          obtain ⟨b, o, e, hbl, hcell⟩ := hc hn0
          refine ⟨b, o, e, by have := hb.size; simp; omega, fun j hj => ?_⟩
          obtain ⟨x, h0, h1, hx⟩ := hcell j hj
          exact ⟨x, h0, h1, by rw [((hb.alloc hb.size _).cell (by exact hbl))]; exact hx⟩, fun a e hn0 => by
          obtain ⟨b, o, e', hbl, _⟩ := hc hn0
          rw [e'] at e; injection e with e; subst e
          exact Nat.lt_of_lt_of_le hbl hb.size, 0, h, Nat.zero_le _, hn, heap_alloc_new _ _⟩, hb.size, hb.alloc hb.size _⟩
    · obtain rfl : k = n := by omega
      go_wp2
      go_ret
      exact ⟨wr.heap.size, rfl, ⟨fun hn0 => by
          obtain ⟨b, o, e, hbl, hcell⟩ := hc hn0
          refine ⟨b, o, e, by have := hb.size; simp; omega, fun j hj => ?_⟩
          obtain ⟨x, h0, h1, hx⟩ := hcell j hj
          exact ⟨x, h0, h1, by rw [((hb.alloc hb.size _).cell (by exact hbl))]; exact hx⟩, fun a e hn0 => by
          obtain ⟨b, o, e', hbl, _⟩ := hc hn0
          rw [e'] at e; injection e with e; subst e
          exact Nat.lt_of_lt_of_le hbl hb.size, 0, h, Nat.zero_le _, hn, heap_alloc_new _ _⟩, hb.size, hb.alloc hb.size _⟩

theorem row_new (w : World) (ss : List ByteArray) (T : TypeId) : StrK.SRow (w.alloc (.cells (ss.map Value.string).toArray T)) (some ⟨w.heap.size, 0, none⟩) ss := fun _ =>
  ⟨w.heap.size, 0, rfl, by simp, fun j x hj => by
    rw [World.cell?_alloc_at _ _ _ _ rfl]
    simp [hj]⟩

theorem small (A : Option Addr) (n c : Nat) (hn : n ≤ 1048576) (w : World) : Calls Tryz.prog 4 #[.slice A n c] w fun e w' => e = .returned (.bool false) ∧ w = w' := by
  have hd : decide ((1048576 : Int) < (n : Int)) = false := by simp; omega
  go_enter Tryz.func4, Tryz.ntmps4
  go_wp2
  go_ret
  exact ⟨by simp <;> omega, rfl⟩
theorem great (A : Option Addr) (n c : Nat) (hn : ¬ n ≤ 1048576) (w : World) : Calls Tryz.prog 4 #[.slice A n c] w fun e w' => e = .returned (.bool true) ∧ w = w' := by
  go_enter Tryz.func4, Tryz.ntmps4
  go_wp2
  go_ret
  exact ⟨by simp <;> omega, rfl⟩
end Draw
end Go.Proofs.YtiilopfhlmeaoaaGreatDoor

/-
  One of several integers, drawn.
-/
namespace Go.Proofs.YtiilopfhlmeaoaaGreatDoor
open Go.RowKit
namespace Draw
/-- The slice with this address holds these integers. -/
def IRow (w : World) (A : Option Addr) (xs : List Int) : Prop :=
  xs ≠ [] → ∃ b o, A = some ⟨b, o, none⟩ ∧ b < w.heap.size ∧ ∀ j x, xs[j]? = some x → w.cell? ⟨b, o + j, none⟩ = some (.int .i64 x)
theorem irow_new (w : World) (xs : List Int) (T : TypeId) : IRow (w.alloc (.cells (xs.map (Value.int .i64)).toArray T)) (some ⟨w.heap.size, 0, none⟩) xs := fun _ =>
  ⟨w.heap.size, 0, rfl, by simp, fun j x hj => by
    rw [World.cell?_alloc_at _ _ _ _ rfl]
    simp [hj]⟩
theorem IRow.only {w w' : World} {A B : Option Addr} {xs : List Int} (h : IRow w A xs) (ho : StrK.Only w w' B) (hne : ∀ a b, A = some a → B = some b → a.block ≠ b.block) : IRow w' A xs := fun hn => by
  obtain ⟨b, o, rfl, hlt, hc⟩ := h hn
  refine ⟨b, o, rfl, Nat.lt_of_lt_of_le hlt ho.size, fun j s hj => ?_⟩
  exact StrK.cell_only (hc j s hj) ho (fun y e => hne _ y rfl e)

/-- One of the integers. -/
def OneInt (xs : List Int) (w : World) (g : Nat) (A : Option Addr) (n c : Nat) (e : Ending) (w' : World) : Prop := ∃ x ∈ xs, e = .returned (.int .i64 x) ∧ Left w g A n c w'

set_option maxHeartbeats 400000 in
theorem pickInt (g : Nat) (A : Option Addr) (n c : Nat) (B : Option Addr) (k d : Nat) (xs : List Int) (hk : xs.length = k) (hne : xs ≠ []) (hmax : k ≤ 1000000) (w : World) (hC : Cur w g A n c) (hB : IRow w B xs) (hg : ∀ b, B = some b → b.block ≠ g) :
    Calls Tryz.prog 38 #[.pointer (some ⟨g, 0, none⟩), .slice B k d] w (OneInt xs w g A n c) := by
  have hpos : 0 < xs.length := List.length_pos_iff.2 hne
  subst hk
  go_enter Tryz.func38, Tryz.ntmps38
  go_wp2_with fail
  refine (below g A n c xs.length (by omega) _ hC).mono ?_
  rintro e w1 ⟨x, hx0, hx1, _, rfl, hL⟩
  obtain ⟨j, rfl⟩ := Int.eq_ofNat_of_zero_le hx0
  have hj : j < xs.length := by have := hx1 (by omega); omega
  obtain ⟨b, o, rfl, hbl, hcell⟩ := hB.only hL.2 (fun a y e e' => by injection e' with e'; subst e'; exact hg a e) hne
  have hc := hcell j xs[j] (List.getElem?_eq_getElem hj)
  have hmem : xs[j] ∈ xs := List.getElem_mem _
  generalize xs[j] = s at *
  have hj1 : (j : Int) < (xs.length : Int) := by omega
  clear hx1 hcell
  go_wp2
  go_ret
  exact ⟨s, hmem, rfl, hL⟩

end Draw
end Go.Proofs.YtiilopfhlmeaoaaGreatDoor

/-
  Drawn bools.
-/
namespace Go.Proofs.YtiilopfhlmeaoaaGreatDoor
open Go.RowKit
namespace Draw

def SomeBool (w : World) (g : Nat) (A : Option Addr) (n c : Nat) (e : Ending) (w' : World) : Prop := ∃ b : Bool, e = .returned (.bool b) ∧ Left w g A n c w'

set_option maxHeartbeats 400000 in
theorem once (g : Nat) (A : Option Addr) (n c : Nat) (m : Int) (hm : m ≤ 1000000000) (w : World) (hC : Cur w g A n c) :
    Calls Tryz.prog 35 #[.pointer (some ⟨g, 0, none⟩), .int .i64 m] w (SomeBool w g A n c) := by
  go_enter Tryz.func35, Tryz.ntmps35
  go_wp2_with fail
  refine (below g A n c m hm _ hC).mono ?_
  rintro e w1 ⟨x, hx0, _, _, rfl, hL⟩
  go_wp2
  go_ret
  exact ⟨_, rfl, hL⟩

end Draw
end Go.Proofs.YtiilopfhlmeaoaaGreatDoor

/-
  One of several texts, drawn.
-/
namespace Go.Proofs.YtiilopfhlmeaoaaGreatDoor
open Go.RowKit
namespace Draw

/-- One of the strings. -/
def OneOf (ss : List ByteArray) (w : World) (g : Nat) (A : Option Addr) (n c : Nat) (e : Ending) (w' : World) : Prop := ∃ s ∈ ss, e = .returned (.string s) ∧ Left w g A n c w'

set_option maxHeartbeats 400000 in
theorem pick (g : Nat) (A : Option Addr) (n c : Nat) (B : Option Addr) (k d : Nat) (ss : List ByteArray) (hk : ss.length = k) (hne : ss ≠ []) (hmax : k ≤ 1000000) (w : World) (hC : Cur w g A n c) (hB : StrK.SRow w B ss) (hg : ∀ b, B = some b → b.block ≠ g) :
    Calls Tryz.prog 37 #[.pointer (some ⟨g, 0, none⟩), .slice B k d] w (OneOf ss w g A n c) := by
  have hpos : 0 < ss.length := List.length_pos_iff.2 hne
  subst hk
  go_enter Tryz.func37, Tryz.ntmps37
  go_wp2_with fail
  refine (below g A n c ss.length (by omega) _ hC).mono ?_
  rintro e w1 ⟨x, hx0, hx1, _, rfl, hL⟩
  obtain ⟨j, rfl⟩ := Int.eq_ofNat_of_zero_le hx0
  have hj : j < ss.length := by have := hx1 (by omega); omega
  obtain ⟨b, o, rfl, hbl, hcell⟩ := (hB.only hL.2 (fun a y e e' => by injection e' with e'; subst e'; exact hg a e)).at_ hj
  have hmem : ss[j] ∈ ss := List.getElem_mem _
  generalize ss[j] = s at *
  have hj1 : (j : Int) < (ss.length : Int) := by omega
  clear hx1
  go_wp2
  go_ret
  exact ⟨s, hmem, rfl, hL⟩

end Draw
end Go.Proofs.YtiilopfhlmeaoaaGreatDoor
