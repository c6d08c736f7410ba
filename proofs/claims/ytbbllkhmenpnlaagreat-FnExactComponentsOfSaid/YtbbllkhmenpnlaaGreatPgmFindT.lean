import Derived.Test.YtbbllkhmenpnlaaGreatPgmFind2
import Derived.Test.YtbbllkhmenpnlaaGreatSysOwn
import Derived.Test.YtbbllkhmenpnlaaGreatLinSpec2
import Derived.Test.YtbbllkhmenpnlaaGreatRepGen
import Derived.Test.YtbbllkhmenpnlaaGreatAppend4
import Derived.Deep.RegionLaw
import Derived.Deep.RegionHeld3
import Derived.Deep.DeepCutAuto
/-
  Functions of a program: copies and search, of the model.
-/
namespace Go.Proofs.YtbbllkhmenpnlaaGreat
open Go.RowKit
namespace ProgS
open RowK Mem ProgI

theorem str_row {w : World} {A : Option Addr} {n c : Nat} {ss : List ByteArray} (h : ArgS Rep.str w A n c ss) : Row 0 w.heap.size w A (ss.map Value.string) := fun hn => by
 obtain ⟨q, fp, h⟩ := h
 obtain ⟨hr, _⟩ := strs_open h
 obtain ⟨b, o, rfl, hlt, hc⟩ := hr (fun e => hn (by rw [e]; rfl))
 refine ⟨b, o, rfl, ⟨Nat.zero_le _, hlt, Nat.le_refl _⟩, fun j v hj => ?_⟩
 rw [List.getElem?_map] at hj
 cases hs : ss[j]? with
 | none => rw [hs] at hj; cases hj
 | some s => rw [hs] at hj; injection hj with hj; subst hj; exact hc j s hs
theorem owned_strs {ok : Nat → Prop} {w : World} {v : Value} {ss : List ByteArray} {base : Nat} (h : w.ownsRow base 9 1 v ss.length (ss.map Value.string)) (hk : ∀ g, v.ownBlock = some g → ok g) : Owned Rep.str 9 ok w v ss :=
 ⟨esOfS ss, vals_esOfS ss, by rw [cells_esOfS]; exact ⟨h.1, h.2.imp id (fun ⟨g, cap, cur, e, _, r⟩ => ⟨g, cap, cur, e, Nat.zero_le _, r⟩)⟩, fun e he => by
  obtain ⟨z, _, rfl⟩ := List.mem_map.1 he
  exact ⟨rfl, rfl⟩, by rw [fps_esOfS]; exact List.nodup_nil, hk, fun b hb => by rw [fps_esOfS] at hb; cases hb⟩
theorem own_none {w : World} {g base size : Nat} {e : TypeId} (h : w.heap[g]? = some (.cells #[] e (0, 0))) (hb : base ≤ g) : w.ownsRow base e size (.slice (some ⟨g, 0, none⟩) 0 0) 0 [] :=
 ⟨by simp, Or.inr ⟨g, 0, #[], rfl, hb, h, Nat.le_refl _, Nat.zero_le _, by simp, by simp⟩⟩
theorem own_where {v v0 : Value} {g0 m n : Nat} (hw : v.ownBlock = v0.ownBlock ∨ ∀ g, v.ownBlock = some g → m ≤ g) (h0 : v0.ownBlock = some g0) (hm : n ≤ m) : ∀ g, v.ownBlock = some g → g = g0 ∨ n ≤ g := fun g e => by
 rcases hw with h | h
 ·rw [h, h0] at e
  injection e with e
  exact Or.inl e.symm
 ·exact Or.inr (Nat.le_trans hm (h g e))
def Begun (w : World) (z0 : ByteArray) (A1 : Option Addr) (c1 : Nat) (x1 : List ByteArray) (z2 : Bool) (A3 : Option Addr) (c3 : Nat) (x3 : List (Int × List Int)) (b : Nat) (v u : Value) (ys : List (Int × List Int)) (wx : World) : Prop :=
 w.heap.size + 2 ≤ b ∧ (∀ g, v.ownBlock = some g → w.heap.size + 2 ≤ g ∧ g ≠ b) ∧ Lvar wx b #[.string z0, v, .bool z2, u] ∧ Owned Rep.str 9 (fun i => v.ownBlock = some i) wx v x1 ∧ Owned lin 108 (fun i => w.heap.size + 2 ≤ i ∧ i ≠ b ∧ v.ownBlock ≠ some i) wx u ys ∧
  Lvar wx w.heap.size #[.string z0, .slice A1 x1.length c1, .bool z2, .slice A3 x3.length c3] ∧ Lvar wx (w.heap.size + 1) #[.string ByteArray.empty, .slice none 0 0, .bool false, .slice none 0 0] ∧ Below w.heap.size w wx

theorem begun2 {w w5 : World} {z0 : ByteArray} {A1 A3 : Option Addr} {c1 c3 : Nat} {x1 : List ByteArray} {z2 : Bool} {x3 : List (Int × List Int)} {b : Nat} {v : Value} (hb : w.heap.size + 2 ≤ b) (hVO : Lvar w5 b #[Value.string ⟨#[]⟩, Value.slice none 0 0, Value.bool false, Value.slice none 0 0])
  (hv : ∀ g, v.ownBlock = some g → w.heap.size + 2 ≤ g ∧ g ≠ b) (hO : Owned Rep.str 9 (fun i => v.ownBlock = some i) w5 v x1) (hA : Lvar w5 w.heap.size #[Value.string z0, Value.slice A1 x1.length c1, Value.bool z2, Value.slice A3 x3.length c3]) (hB : Lvar w5 (w.heap.size + 1) #[Value.string ⟨#[]⟩, Value.slice none 0 0, Value.bool false, Value.slice none 0 0]) (hD : Below w.heap.size w w5) :
  Begun w z0 A1 c1 x1 z2 A3 c3 x3 b v (.slice none 0 0) [] ((((w5.setCell ⟨b, 0, none⟩ (Value.string z0)).setCell ⟨b, 1, none⟩ (v)).setCell ⟨b, 2, none⟩ (Value.bool z2)).setCell ⟨b, 3, none⟩ (Value.slice none 0 0)) :=
 ⟨hb, hv, ((((hVO.set 0 (Value.string z0)).set 1 (v)).set 2 (Value.bool z2)).set 3 (Value.slice none 0 0)), ((((hO.set (fun h => (hv b h).2 rfl) 0 (Value.string z0)).set (fun h => (hv b h).2 rfl) 1 (v)).set (fun h => (hv b h).2 rfl) 2 (Value.bool z2)).set (fun h => (hv b h).2 rfl) 3 (Value.slice none 0 0)), Owned.nil _ _ _ _, ((((hA.other (p := ⟨b, 0, none⟩) (by show w.heap.size ≠ b; omega) (Value.string z0)).other (p := ⟨b, 1, none⟩) (by show w.heap.size ≠ b; omega) (v)).other (p := ⟨b, 2, none⟩) (by show w.heap.size ≠ b; omega) (Value.bool z2)).other (p := ⟨b, 3, none⟩) (by show w.heap.size ≠ b; omega) (Value.slice none 0 0)), ((((hB.other (p := ⟨b, 0, none⟩) (by show w.heap.size + 1 ≠ b; omega) (Value.string z0)).other (p := ⟨b, 1, none⟩) (by show w.heap.size + 1 ≠ b; omega) (v)).other (p := ⟨b, 2, none⟩) (by show w.heap.size + 1 ≠ b; omega) (Value.bool z2)).other (p := ⟨b, 3, none⟩) (by show w.heap.size + 1 ≠ b; omega) (Value.slice none 0 0)), ((((hD.setCell (p := ⟨b, 0, none⟩) (by show w.heap.size ≤ b; omega) (Value.string z0)).setCell (p := ⟨b, 1, none⟩) (by show w.heap.size ≤ b; omega) (v)).setCell (p := ⟨b, 2, none⟩) (by show w.heap.size ≤ b; omega) (Value.bool z2)).setCell (p := ⟨b, 3, none⟩) (by show w.heap.size ≤ b; omega) (Value.slice none 0 0))⟩
theorem begun1 {w w5 : World} {z0 : ByteArray} {A1 A3 : Option Addr} {c1 c3 : Nat} {x1 : List ByteArray} {z2 : Bool} {x3 : List (Int × List Int)} {v : Value} (T : TypeId) (hb : w.heap.size + 2 ≤ w5.heap.size)
  (hv : ∀ g, v.ownBlock = some g → w.heap.size + 2 ≤ g ∧ g ≠ w5.heap.size) (hO : Owned Rep.str 9 (fun i => v.ownBlock = some i) w5 v x1) (hA : Lvar w5 w.heap.size #[Value.string z0, Value.slice A1 x1.length c1, Value.bool z2, Value.slice A3 x3.length c3]) (hB : Lvar w5 (w.heap.size + 1) #[Value.string ⟨#[]⟩, Value.slice none 0 0, Value.bool false, Value.slice none 0 0]) (hD : Below w.heap.size w w5) :
  Begun w z0 A1 c1 x1 z2 A3 c3 x3 w5.heap.size v (.slice none 0 0) [] (w5.alloc (Obj.cells #[Value.string z0, v, Value.bool z2, Value.slice none 0 0] T)) :=
 ⟨hb, hv, Lvar.new _ _ _, hO.below ((Below.refl _ _).alloc (Nat.le_refl _) _), Owned.nil _ _ _ _, hA.alloc _, hB.alloc _, hD.alloc hD.size _⟩

set_option maxHeartbeats 4000000 in
set_option maxRecDepth 100000 in
theorem copyFn (z0 : ByteArray) (A1 : Option Addr) (c1 : Nat) (x1 : List ByteArray) (z2 : Bool) (A3 : Option Addr) (c3 : Nat) (x3 : List (Int × List Int)) (w : World)
  (h1 : ArgS Rep.str w A1 x1.length c1 x1) (h3 : ArgS lin w A3 x3.length c3 x3) (hl : szFunctionU (z0, x1, z2, x3) ≤ 100000000) :
  Calls Tryz.prog 139 #[.agg #[.string z0, .slice A1 x1.length c1, .bool z2, .slice A3 x3.length c3]] w (GaveFn w (z0, x1, z2, x3)) := by
 simp only [szFunctionU] at hl
 have hx1 : x1.length ≤ 100000000 := by omega
 obtain ⟨i0, hi, hz0, hz1, hz2⟩ := info_parts strInfoU
 have HI := Lib.hid hi
 have HZ0 := Lib.hid hz0
 have HZ1 := Lib.hid hz1
 have HZ2 := Lib.hid hz2
 have hu := Lib.hid Tryz.underlying31
 have h1r := Lib.hid (fun W (h : Below w.heap.size w W) => str_row (h1.below h))
 have B0 := Lib.hid (((Below.refl w.heap.size w).alloc (Nat.le_refl _) (Obj.cells #[Value.string z0, Value.slice A1 x1.length c1, Value.bool z2, Value.slice A3 x3.length c3] 98)).alloc (by simp) (Obj.cells #[Value.string ByteArray.empty, Value.slice none 0 0, Value.bool false, Value.slice none 0 0] 98))
 clear hi hz0 hz1 hz2
 go_enter Tryz.func139, Tryz.ntmps139
 go_upto_region 1 with fail
 go_cut [3] (fun s wx => ∃ b v, s = .pointer (some ⟨b, 0, none⟩) ∧ Begun w z0 A1 c1 x1 z2 A3 c3 x3 b v (.slice none 0 0) [] wx)
 case first =>
  have E1 := Lib.hid (show (((w.alloc (Obj.cells #[Value.string z0, Value.slice A1 x1.length c1, Value.bool z2, Value.slice A3 x3.length c3] 98)).alloc (Obj.cells #[Value.string ⟨#[]⟩, Value.slice none 0 0, Value.bool false, Value.slice none 0 0] 98)).alloc (Obj.cells #[] 9)).drew.heap[w.heap.size + 1 + 1]? = some (Obj.cells #[] 9) from by have h9 := heap_alloc_new ((w.alloc (Obj.cells #[Value.string z0, Value.slice A1 x1.length c1, Value.bool z2, Value.slice A3 x3.length c3] 98)).alloc (Obj.cells #[Value.string ⟨#[]⟩, Value.slice none 0 0, Value.bool false, Value.slice none 0 0] 98)) (Obj.cells #[] 9); simp only [World.size_alloc] at h9; exact h9)
  have LA1 := Lib.hid (show Lvar (((w.alloc (Obj.cells #[Value.string z0, Value.slice A1 x1.length c1, Value.bool z2, Value.slice A3 x3.length c3] 98)).alloc (Obj.cells #[Value.string ⟨#[]⟩, Value.slice none 0 0, Value.bool false, Value.slice none 0 0] 98)).alloc (Obj.cells #[] 9)).drew w.heap.size #[Value.string z0, Value.slice A1 x1.length c1, Value.bool z2, Value.slice A3 x3.length c3] from (((Lvar.new w #[Value.string z0, Value.slice A1 x1.length c1, Value.bool z2, Value.slice A3 x3.length c3] 98).alloc (Obj.cells #[Value.string ⟨#[]⟩, Value.slice none 0 0, Value.bool false, Value.slice none 0 0] 98)).alloc (Obj.cells #[] 9)).below (Below.refl _ _).drew)
  have LB1 := Lib.hid (show Lvar (((w.alloc (Obj.cells #[Value.string z0, Value.slice A1 x1.length c1, Value.bool z2, Value.slice A3 x3.length c3] 98)).alloc (Obj.cells #[Value.string ⟨#[]⟩, Value.slice none 0 0, Value.bool false, Value.slice none 0 0] 98)).alloc (Obj.cells #[] 9)).drew (w.heap.size + 1) #[Value.string ⟨#[]⟩, Value.slice none 0 0, Value.bool false, Value.slice none 0 0] from by have h9 := ((Lvar.new (w.alloc (Obj.cells #[Value.string z0, Value.slice A1 x1.length c1, Value.bool z2, Value.slice A3 x3.length c3] 98)) #[Value.string ⟨#[]⟩, Value.slice none 0 0, Value.bool false, Value.slice none 0 0] 98).alloc (Obj.cells #[] 9)).below (Below.refl _ _).drew; simp only [World.size_alloc] at h9; exact h9)
  have BW1 := Lib.hid (show Below w.heap.size w (((w.alloc (Obj.cells #[Value.string z0, Value.slice A1 x1.length c1, Value.bool z2, Value.slice A3 x3.length c3] 98)).alloc (Obj.cells #[Value.string ⟨#[]⟩, Value.slice none 0 0, Value.bool false, Value.slice none 0 0] 98)).alloc (Obj.cells #[] 9)).drew from (by repeat (first | with_reducible exact Below.refl _ _ | refine Below.drew ?_ | refine Below.alloc ?_ (by first | omega | (simp; done) | (simp; omega)) _)))
  have E2 := Lib.hid (show ((((w.alloc (Obj.cells #[Value.string z0, Value.slice A1 x1.length c1, Value.bool z2, Value.slice A3 x3.length c3] 98)).alloc (Obj.cells #[Value.string ⟨#[]⟩, Value.slice none 0 0, Value.bool false, Value.slice none 0 0] 98)).alloc (Obj.cells #[] 9)).alloc (Obj.cells #[Value.string ⟨#[]⟩, Value.slice none 0 0, Value.bool false, Value.slice none 0 0] 98)).drew.heap[w.heap.size + 1 + 1]? = some (Obj.cells #[] 9) from by have h9 := (((Below.refl (((w.alloc (Obj.cells #[Value.string z0, Value.slice A1 x1.length c1, Value.bool z2, Value.slice A3 x3.length c3] 98)).alloc (Obj.cells #[Value.string ⟨#[]⟩, Value.slice none 0 0, Value.bool false, Value.slice none 0 0] 98)).alloc (Obj.cells #[] 9)).heap.size (((w.alloc (Obj.cells #[Value.string z0, Value.slice A1 x1.length c1, Value.bool z2, Value.slice A3 x3.length c3] 98)).alloc (Obj.cells #[Value.string ⟨#[]⟩, Value.slice none 0 0, Value.bool false, Value.slice none 0 0] 98)).alloc (Obj.cells #[] 9))).alloc (Nat.le_refl _) (Obj.cells #[Value.string ⟨#[]⟩, Value.slice none 0 0, Value.bool false, Value.slice none 0 0] 98)).block _ (by simp)).trans (heap_alloc_new ((w.alloc (Obj.cells #[Value.string z0, Value.slice A1 x1.length c1, Value.bool z2, Value.slice A3 x3.length c3] 98)).alloc (Obj.cells #[Value.string ⟨#[]⟩, Value.slice none 0 0, Value.bool false, Value.slice none 0 0] 98)) (Obj.cells #[] 9)); simp only [World.size_alloc] at h9; exact h9)
  have LA2 := Lib.hid (show Lvar ((((w.alloc (Obj.cells #[Value.string z0, Value.slice A1 x1.length c1, Value.bool z2, Value.slice A3 x3.length c3] 98)).alloc (Obj.cells #[Value.string ⟨#[]⟩, Value.slice none 0 0, Value.bool false, Value.slice none 0 0] 98)).alloc (Obj.cells #[] 9)).alloc (Obj.cells #[Value.string ⟨#[]⟩, Value.slice none 0 0, Value.bool false, Value.slice none 0 0] 98)).drew w.heap.size #[Value.string z0, Value.slice A1 x1.length c1, Value.bool z2, Value.slice A3 x3.length c3] from ((((Lvar.new w #[Value.string z0, Value.slice A1 x1.length c1, Value.bool z2, Value.slice A3 x3.length c3] 98).alloc (Obj.cells #[Value.string ⟨#[]⟩, Value.slice none 0 0, Value.bool false, Value.slice none 0 0] 98)).alloc (Obj.cells #[] 9)).alloc (Obj.cells #[Value.string ⟨#[]⟩, Value.slice none 0 0, Value.bool false, Value.slice none 0 0] 98)).below (Below.refl _ _).drew)
  have LB2 := Lib.hid (show Lvar ((((w.alloc (Obj.cells #[Value.string z0, Value.slice A1 x1.length c1, Value.bool z2, Value.slice A3 x3.length c3] 98)).alloc (Obj.cells #[Value.string ⟨#[]⟩, Value.slice none 0 0, Value.bool false, Value.slice none 0 0] 98)).alloc (Obj.cells #[] 9)).alloc (Obj.cells #[Value.string ⟨#[]⟩, Value.slice none 0 0, Value.bool false, Value.slice none 0 0] 98)).drew (w.heap.size + 1) #[Value.string ⟨#[]⟩, Value.slice none 0 0, Value.bool false, Value.slice none 0 0] from by have h9 := (((Lvar.new (w.alloc (Obj.cells #[Value.string z0, Value.slice A1 x1.length c1, Value.bool z2, Value.slice A3 x3.length c3] 98)) #[Value.string ⟨#[]⟩, Value.slice none 0 0, Value.bool false, Value.slice none 0 0] 98).alloc (Obj.cells #[] 9)).alloc (Obj.cells #[Value.string ⟨#[]⟩, Value.slice none 0 0, Value.bool false, Value.slice none 0 0] 98)).below (Below.refl _ _).drew; simp only [World.size_alloc] at h9; exact h9)
  have BW2 := Lib.hid (show Below w.heap.size w ((((w.alloc (Obj.cells #[Value.string z0, Value.slice A1 x1.length c1, Value.bool z2, Value.slice A3 x3.length c3] 98)).alloc (Obj.cells #[Value.string ⟨#[]⟩, Value.slice none 0 0, Value.bool false, Value.slice none 0 0] 98)).alloc (Obj.cells #[] 9)).alloc (Obj.cells #[Value.string ⟨#[]⟩, Value.slice none 0 0, Value.bool false, Value.slice none 0 0] 98)).drew from (by repeat (first | with_reducible exact Below.refl _ _ | refine Below.drew ?_ | refine Below.alloc ?_ (by first | omega | (simp; done) | (simp; omega)) _)))
  have E3 := Lib.hid (show ((((w.alloc (Obj.cells #[Value.string z0, Value.slice A1 x1.length c1, Value.bool z2, Value.slice A3 x3.length c3] 98)).alloc (Obj.cells #[Value.string ⟨#[]⟩, Value.slice none 0 0, Value.bool false, Value.slice none 0 0] 98)).alloc (Obj.cells #[Value.string ⟨#[]⟩, Value.slice none 0 0, Value.bool false, Value.slice none 0 0] 98)).alloc (Obj.cells #[] 9)).drew.heap[w.heap.size + 1 + 1 + 1]? = some (Obj.cells #[] 9) from by have h9 := heap_alloc_new (((w.alloc (Obj.cells #[Value.string z0, Value.slice A1 x1.length c1, Value.bool z2, Value.slice A3 x3.length c3] 98)).alloc (Obj.cells #[Value.string ⟨#[]⟩, Value.slice none 0 0, Value.bool false, Value.slice none 0 0] 98)).alloc (Obj.cells #[Value.string ⟨#[]⟩, Value.slice none 0 0, Value.bool false, Value.slice none 0 0] 98)) (Obj.cells #[] 9); simp only [World.size_alloc] at h9; exact h9)
  have LA3 := Lib.hid (show Lvar ((((w.alloc (Obj.cells #[Value.string z0, Value.slice A1 x1.length c1, Value.bool z2, Value.slice A3 x3.length c3] 98)).alloc (Obj.cells #[Value.string ⟨#[]⟩, Value.slice none 0 0, Value.bool false, Value.slice none 0 0] 98)).alloc (Obj.cells #[Value.string ⟨#[]⟩, Value.slice none 0 0, Value.bool false, Value.slice none 0 0] 98)).alloc (Obj.cells #[] 9)).drew w.heap.size #[Value.string z0, Value.slice A1 x1.length c1, Value.bool z2, Value.slice A3 x3.length c3] from ((((Lvar.new w #[Value.string z0, Value.slice A1 x1.length c1, Value.bool z2, Value.slice A3 x3.length c3] 98).alloc (Obj.cells #[Value.string ⟨#[]⟩, Value.slice none 0 0, Value.bool false, Value.slice none 0 0] 98)).alloc (Obj.cells #[Value.string ⟨#[]⟩, Value.slice none 0 0, Value.bool false, Value.slice none 0 0] 98)).alloc (Obj.cells #[] 9)).below (Below.refl _ _).drew)
  have LB3 := Lib.hid (show Lvar ((((w.alloc (Obj.cells #[Value.string z0, Value.slice A1 x1.length c1, Value.bool z2, Value.slice A3 x3.length c3] 98)).alloc (Obj.cells #[Value.string ⟨#[]⟩, Value.slice none 0 0, Value.bool false, Value.slice none 0 0] 98)).alloc (Obj.cells #[Value.string ⟨#[]⟩, Value.slice none 0 0, Value.bool false, Value.slice none 0 0] 98)).alloc (Obj.cells #[] 9)).drew (w.heap.size + 1) #[Value.string ⟨#[]⟩, Value.slice none 0 0, Value.bool false, Value.slice none 0 0] from by have h9 := (((Lvar.new (w.alloc (Obj.cells #[Value.string z0, Value.slice A1 x1.length c1, Value.bool z2, Value.slice A3 x3.length c3] 98)) #[Value.string ⟨#[]⟩, Value.slice none 0 0, Value.bool false, Value.slice none 0 0] 98).alloc (Obj.cells #[Value.string ⟨#[]⟩, Value.slice none 0 0, Value.bool false, Value.slice none 0 0] 98)).alloc (Obj.cells #[] 9)).below (Below.refl _ _).drew; simp only [World.size_alloc] at h9; exact h9)
  have BW3 := Lib.hid (show Below w.heap.size w ((((w.alloc (Obj.cells #[Value.string z0, Value.slice A1 x1.length c1, Value.bool z2, Value.slice A3 x3.length c3] 98)).alloc (Obj.cells #[Value.string ⟨#[]⟩, Value.slice none 0 0, Value.bool false, Value.slice none 0 0] 98)).alloc (Obj.cells #[Value.string ⟨#[]⟩, Value.slice none 0 0, Value.bool false, Value.slice none 0 0] 98)).alloc (Obj.cells #[] 9)).drew from (by repeat (first | with_reducible exact Below.refl _ _ | refine Below.drew ?_ | refine Below.alloc ?_ (by first | omega | (simp; done) | (simp; omega)) _)))
  have LO2 := Lib.hid (show Lvar ((((w.alloc (Obj.cells #[Value.string z0, Value.slice A1 x1.length c1, Value.bool z2, Value.slice A3 x3.length c3] 98)).alloc (Obj.cells #[Value.string ⟨#[]⟩, Value.slice none 0 0, Value.bool false, Value.slice none 0 0] 98)).alloc (Obj.cells #[] 9)).alloc (Obj.cells #[Value.string ⟨#[]⟩, Value.slice none 0 0, Value.bool false, Value.slice none 0 0] 98)).drew (w.heap.size + 1 + 1 + 1) #[Value.string ⟨#[]⟩, Value.slice none 0 0, Value.bool false, Value.slice none 0 0] from by have h9 := (Lvar.new (((w.alloc (Obj.cells #[Value.string z0, Value.slice A1 x1.length c1, Value.bool z2, Value.slice A3 x3.length c3] 98)).alloc (Obj.cells #[Value.string ⟨#[]⟩, Value.slice none 0 0, Value.bool false, Value.slice none 0 0] 98)).alloc (Obj.cells #[] 9)) #[Value.string ⟨#[]⟩, Value.slice none 0 0, Value.bool false, Value.slice none 0 0] 98).below (Below.refl _ _).drew; simp only [World.size_alloc] at h9; exact h9)
  have LO3 := Lib.hid (show Lvar ((((w.alloc (Obj.cells #[Value.string z0, Value.slice A1 x1.length c1, Value.bool z2, Value.slice A3 x3.length c3] 98)).alloc (Obj.cells #[Value.string ⟨#[]⟩, Value.slice none 0 0, Value.bool false, Value.slice none 0 0] 98)).alloc (Obj.cells #[Value.string ⟨#[]⟩, Value.slice none 0 0, Value.bool false, Value.slice none 0 0] 98)).alloc (Obj.cells #[] 9)).drew (w.heap.size + 1 + 1) #[Value.string ⟨#[]⟩, Value.slice none 0 0, Value.bool false, Value.slice none 0 0] from by have h9 := ((Lvar.new ((w.alloc (Obj.cells #[Value.string z0, Value.slice A1 x1.length c1, Value.bool z2, Value.slice A3 x3.length c3] 98)).alloc (Obj.cells #[Value.string ⟨#[]⟩, Value.slice none 0 0, Value.bool false, Value.slice none 0 0] 98)) #[Value.string ⟨#[]⟩, Value.slice none 0 0, Value.bool false, Value.slice none 0 0] 98).alloc (Obj.cells #[] 9)).below (Below.refl _ _).drew; simp only [World.size_alloc] at h9; exact h9)
  go_region_held3 (fun W => W.cell? ⟨w.heap.size, 0, none⟩ = some (.string z0) ∧ W.cell? ⟨w.heap.size, 1, none⟩ = some (.slice A1 x1.length c1) ∧ W.cell? ⟨w.heap.size, 2, none⟩ = some (.bool z2)) (first | go_keep | (refine ⟨?_, ?_, ?_⟩ <;> (repeat rw [World.cell?_setCell_other _ _ _ _ (by intro h; simp only [Addr.mk.injEq] at h; omega)]) <;> assumption))
   (first
   | ((refine step_append_rowW (w := (((w.alloc (Obj.cells #[Value.string z0, Value.slice A1 x1.length c1, Value.bool z2, Value.slice A3 x3.length c3] 98)).alloc (Obj.cells #[Value.string ⟨#[]⟩, Value.slice none 0 0, Value.bool false, Value.slice none 0 0] 98)).alloc (Obj.cells #[] 9)).drew) rfl _ _ _ rfl 9 i0 (.string ByteArray.empty) 1 16 (w.heap.size + 2) hu.out HI.out HZ0.out HZ1.out HZ2.out (by rfl) (by decide) (.slice (some ⟨w.heap.size + 1 + 1, 0, none⟩) 0 0) 0 [] rfl (own_none E1.out (by omega)) A1 x1.length c1 (x1.map Value.string) rfl (by simp) (h1r.out _ BW1.out) (by simp [Value.oneCell']) (by unfold maxLen; omega) (by omega) (by first | omega | (simp; done) | (simp; omega)) ?_); intro v5 w5 hown5 hgrow5 hwh5; (simp only [Nat.zero_add, List.nil_append] at hown5); (obtain ⟨A5, c5, rfl, hr5, hf5, hc5, hb5⟩ := RowK.of_own hown5); (have VA5 := lvar_grown LA1.out hgrow5 (by intro h; have h9 : some (w.heap.size + 1 + 1) = some _ := h; injection h9 with h9; omega)); (have VB5 := lvar_grown LB1.out hgrow5 (by intro h; have h9 : some (w.heap.size + 1 + 1) = some _ := h; injection h9 with h9; omega)); (have lt5 := VA5.lt); (have a0 : w5.cell? ⟨w.heap.size, 0, none⟩ = some (.string z0) := VA5.cell 0 _ rfl); (have a1 : w5.cell? ⟨w.heap.size, 1, none⟩ = some (.slice A1 x1.length c1) := VA5.cell 1 _ rfl); (have a2 : w5.cell? ⟨w.heap.size, 2, none⟩ = some (.bool z2) := VA5.cell 2 _ rfl); (have hk5 := own_where (n := w.heap.size + 3) hwh5 (show _ = some (w.heap.size + 1 + 1) from rfl) (by first | omega | (simp; done) | (simp; omega))); (have hv5 : ∀ g, (Value.slice A5 x1.length c5).ownBlock = some g → w.heap.size + 2 ≤ g ∧ g ≠ w5.heap.size := (fun g e => ⟨by have h9 := (hown5.lt g e).1; omega, by have h9 := (hown5.lt g e).2; omega⟩)); (have hO5 := owned_strs (ok := fun i => (Value.slice A5 x1.length c5).ownBlock = some i) hown5 (fun g e => e)); (have BB5 := BW1.out.grown hgrow5 (by first | omega | (simp; done) | (simp; omega)) (fun g e => by have h9 : some (w.heap.size + 1 + 1) = some g := e; injection h9 with h9; omega)); (have hz5 := hgrow5.size))
   | ((refine step_append_rowW (w := ((((w.alloc (Obj.cells #[Value.string z0, Value.slice A1 x1.length c1, Value.bool z2, Value.slice A3 x3.length c3] 98)).alloc (Obj.cells #[Value.string ⟨#[]⟩, Value.slice none 0 0, Value.bool false, Value.slice none 0 0] 98)).alloc (Obj.cells #[] 9)).alloc (Obj.cells #[Value.string ⟨#[]⟩, Value.slice none 0 0, Value.bool false, Value.slice none 0 0] 98)).drew) rfl _ _ _ rfl 9 i0 (.string ByteArray.empty) 1 16 (w.heap.size + 2) hu.out HI.out HZ0.out HZ1.out HZ2.out (by rfl) (by decide) (.slice (some ⟨w.heap.size + 1 + 1, 0, none⟩) 0 0) 0 [] rfl (own_none E2.out (by omega)) A1 x1.length c1 (x1.map Value.string) rfl (by simp) (h1r.out _ BW2.out) (by simp [Value.oneCell']) (by unfold maxLen; omega) (by omega) (by first | omega | (simp; done) | (simp; omega)) ?_); intro v5 w5 hown5 hgrow5 hwh5; (simp only [Nat.zero_add, List.nil_append] at hown5); (obtain ⟨A5, c5, rfl, hr5, hf5, hc5, hb5⟩ := RowK.of_own hown5); (have VA5 := lvar_grown LA2.out hgrow5 (by intro h; have h9 : some (w.heap.size + 1 + 1) = some _ := h; injection h9 with h9; omega)); (have VB5 := lvar_grown LB2.out hgrow5 (by intro h; have h9 : some (w.heap.size + 1 + 1) = some _ := h; injection h9 with h9; omega)); (have lt5 := VA5.lt); (have a0 : w5.cell? ⟨w.heap.size, 0, none⟩ = some (.string z0) := VA5.cell 0 _ rfl); (have a1 : w5.cell? ⟨w.heap.size, 1, none⟩ = some (.slice A1 x1.length c1) := VA5.cell 1 _ rfl); (have a2 : w5.cell? ⟨w.heap.size, 2, none⟩ = some (.bool z2) := VA5.cell 2 _ rfl); (have hk5 := own_where (n := w.heap.size + 4) hwh5 (show _ = some (w.heap.size + 1 + 1) from rfl) (by first | omega | (simp; done) | (simp; omega))); (have hv5 : ∀ g, (Value.slice A5 x1.length c5).ownBlock = some g → w.heap.size + 2 ≤ g ∧ g ≠ w.heap.size + 1 + 1 + 1 := (fun g e => ⟨by rcases hk5 g e with h | h <;> omega, by rcases hk5 g e with h | h <;> omega⟩)); (have hO5 := owned_strs (ok := fun i => (Value.slice A5 x1.length c5).ownBlock = some i) hown5 (fun g e => e)); (have BB5 := BW2.out.grown hgrow5 (by first | omega | (simp; done) | (simp; omega)) (fun g e => by have h9 : some (w.heap.size + 1 + 1) = some g := e; injection h9 with h9; omega)); (have hz5 := hgrow5.size); (have VO5 := lvar_grown LO2.out hgrow5 (by intro h; have h9 : some (w.heap.size + 1 + 1) = some _ := h; injection h9 with h9; omega)); (have f0 := VO5.frozen 0); (have f1 := VO5.frozen 1); (have f2 := VO5.frozen 2); (have f3 := VO5.frozen 3); (have o0 : w5.cell? ⟨w.heap.size + 1 + 1 + 1, 0, none⟩ = some (.string ⟨#[]⟩) := VO5.cell 0 _ rfl); (have o1 : w5.cell? ⟨w.heap.size + 1 + 1 + 1, 1, none⟩ = some (.slice none 0 0) := VO5.cell 1 _ rfl); (have o2 : w5.cell? ⟨w.heap.size + 1 + 1 + 1, 2, none⟩ = some (.bool false) := VO5.cell 2 _ rfl); (have o3 : w5.cell? ⟨w.heap.size + 1 + 1 + 1, 3, none⟩ = some (.slice none 0 0) := VO5.cell 3 _ rfl))
   | ((refine step_append_rowW (w := ((((w.alloc (Obj.cells #[Value.string z0, Value.slice A1 x1.length c1, Value.bool z2, Value.slice A3 x3.length c3] 98)).alloc (Obj.cells #[Value.string ⟨#[]⟩, Value.slice none 0 0, Value.bool false, Value.slice none 0 0] 98)).alloc (Obj.cells #[Value.string ⟨#[]⟩, Value.slice none 0 0, Value.bool false, Value.slice none 0 0] 98)).alloc (Obj.cells #[] 9)).drew) rfl _ _ _ rfl 9 i0 (.string ByteArray.empty) 1 16 (w.heap.size + 2) hu.out HI.out HZ0.out HZ1.out HZ2.out (by rfl) (by decide) (.slice (some ⟨w.heap.size + 1 + 1 + 1, 0, none⟩) 0 0) 0 [] rfl (own_none E3.out (by omega)) A1 x1.length c1 (x1.map Value.string) rfl (by simp) (h1r.out _ BW3.out) (by simp [Value.oneCell']) (by unfold maxLen; omega) (by omega) (by first | omega | (simp; done) | (simp; omega)) ?_); intro v5 w5 hown5 hgrow5 hwh5; (simp only [Nat.zero_add, List.nil_append] at hown5); (obtain ⟨A5, c5, rfl, hr5, hf5, hc5, hb5⟩ := RowK.of_own hown5); (have VA5 := lvar_grown LA3.out hgrow5 (by intro h; have h9 : some (w.heap.size + 1 + 1 + 1) = some _ := h; injection h9 with h9; omega)); (have VB5 := lvar_grown LB3.out hgrow5 (by intro h; have h9 : some (w.heap.size + 1 + 1 + 1) = some _ := h; injection h9 with h9; omega)); (have lt5 := VA5.lt); (have a0 : w5.cell? ⟨w.heap.size, 0, none⟩ = some (.string z0) := VA5.cell 0 _ rfl); (have a1 : w5.cell? ⟨w.heap.size, 1, none⟩ = some (.slice A1 x1.length c1) := VA5.cell 1 _ rfl); (have a2 : w5.cell? ⟨w.heap.size, 2, none⟩ = some (.bool z2) := VA5.cell 2 _ rfl); (have hk5 := own_where (n := w.heap.size + 4) hwh5 (show _ = some (w.heap.size + 1 + 1 + 1) from rfl) (by first | omega | (simp; done) | (simp; omega))); (have hv5 : ∀ g, (Value.slice A5 x1.length c5).ownBlock = some g → w.heap.size + 2 ≤ g ∧ g ≠ w.heap.size + 1 + 1 := (fun g e => ⟨by rcases hk5 g e with h | h <;> omega, by rcases hk5 g e with h | h <;> omega⟩)); (have hO5 := owned_strs (ok := fun i => (Value.slice A5 x1.length c5).ownBlock = some i) hown5 (fun g e => e)); (have BB5 := BW3.out.grown hgrow5 (by first | omega | (simp; done) | (simp; omega)) (fun g e => by have h9 : some (w.heap.size + 1 + 1 + 1) = some g := e; injection h9 with h9; omega)); (have hz5 := hgrow5.size); (have VO5 := lvar_grown LO3.out hgrow5 (by intro h; have h9 : some (w.heap.size + 1 + 1 + 1) = some _ := h; injection h9 with h9; omega)); (have f0 := VO5.frozen 0); (have f1 := VO5.frozen 1); (have f2 := VO5.frozen 2); (have f3 := VO5.frozen 3); (have o0 : w5.cell? ⟨w.heap.size + 1 + 1, 0, none⟩ = some (.string ⟨#[]⟩) := VO5.cell 0 _ rfl); (have o1 : w5.cell? ⟨w.heap.size + 1 + 1, 1, none⟩ = some (.slice none 0 0) := VO5.cell 1 _ rfl); (have o2 : w5.cell? ⟨w.heap.size + 1 + 1, 2, none⟩ = some (.bool false) := VO5.cell 2 _ rfl); (have o3 : w5.cell? ⟨w.heap.size + 1 + 1, 3, none⟩ = some (.slice none 0 0) := VO5.cell 3 _ rfl)))
  all_goals
   go_wp2_with fail
   go_meet
   have hz6 : w.heap.size + 2 ≤ w5.heap.size := by simp at hz5; omega
   have hb6 : w.heap.size + 2 ≤ w.heap.size + 1 + 1 := by omega
   have hb7 : w.heap.size + 2 ≤ w.heap.size + 1 + 1 + 1 := by omega
   first
    | with_reducible exact ⟨_, _, rfl, begun1 _ hz6 hv5 hO5 VA5 VB5 BB5⟩
    | with_reducible exact ⟨_, _, rfl, begun2 hb6 VO5 hv5 hO5 VA5 VB5 BB5⟩
    | with_reducible exact ⟨_, _, rfl, begun2 hb7 VO5 hv5 hO5 VA5 VB5 BB5⟩
 case rest =>
  obtain ⟨b, v, hs3, hB⟩ := hcut
  subst hs3
  obtain ⟨j0, hj, hjz0, hjz1, hjz2⟩ := info_parts linInfo
  have JI := Lib.hid hj
  have JZ0 := Lib.hid hjz0
  have JZ1 := Lib.hid hjz1
  have JZ2 := Lib.hid hjz2
  have hul := Lib.hid Tryz.underlying96
  have hxl : x3.length ≤ 100000000 := by omega
  have HL := Lib.hid (show x3.length + szs szLin x3 ≤ 100000000 by omega)
  have HA := Lib.hid h3
  have HB := Lib.hid hB
  clear hB h1 h3 hl hj hjz0 hjz1 hjz2 HI HZ0 HZ1 HZ2 hu h1r B0 hx1
  obtain ⟨wc', hwc⟩ : ∃ w1 : World, w1 = wc := ⟨_, rfl⟩
  go_wp2
  go_loopw [4] (fun i wr => ∃ (k : Nat) (u : Value), k ≤ x3.length ∧ i = .int .i64 k ∧ Begun w z0 A1 c1 x1 z2 A3 c3 x3 b v u (x3.take k) wr) (fun i _ => x3.length - (intOf i).toNat)
  case atStart => exact ⟨0, .slice none 0 0, Nat.zero_le _, rfl, HB.out⟩
  case round =>
   obtain ⟨k, u, hk, rfl, hb2, hv, hV, hS, hR, hA, hZ, hb⟩ := hrel
   have HV := Lib.hid hV
   have HS := Lib.hid hS
   have HR := Lib.hid hR
   have HBX := Lib.hid hA
   have HZR := Lib.hid hZ
   have HBB := Lib.hid hb
   have HVN := Lib.hid hv
   have hbl := hV.lt
   have hwl := hA.lt
   have v3 : wr.cell? ⟨b, 3, none⟩ = some u := hV.cell 3 u rfl
   have a3 : wr.cell? ⟨w.heap.size, 3, none⟩ = some (.slice A3 x3.length c3) := hA.cell 3 _ rfl
   have hrw := hZ.lt
   clear hV hS hR hA hZ hb hv
   by_cases hlt : k < x3.length
   ·obtain ⟨q, fp, hA'⟩ := HA.out.below HBB.out
    obtain ⟨bb, o, B, d, lo, hi, rfl, hbb, g0, g1, hd, r1⟩ := lins_at hA' hlt
    have hs9 : x3[k].2.length ≤ 1000000000 := by
     have := HL.out
     have h9 : szLin x3[k] ≤ szs szLin x3 := szs_mem (sz := szLin) (List.getElem_mem hlt)
     have h8 : szLin x3[k] = x3[k].2.length := rfl
     omega
    have HT := Lib.hid (take_snoc hlt)
    clear hA'
    generalize x3[k] = x at *
    obtain ⟨z, zs⟩ := x
    simp only at g0 g1 r1 hs9 hd
    have hdr : Below wr.heap.size wr wr.drew := (Below.refl _ _).drew
    have CP := Lib.hid (LinS.copyC lo hi z B d zs wr.drew (r1.below hdr) hs9)
    have hi0 : (0 : Int) ≤ (k : Int) := by omega
    have hi1 : (k : Int) < (x3.length : Int) := by omega
    have HTL := Lib.hid (show (x3.take k).length = k by rw [List.length_take]; omega)
    obtain ⟨es, hes, hown, he, hn, hog, hdis⟩ := HR.out
    have hown : wr.ownsRow 0 108 2 u (x3.take k).length (cells es) := hown
    have HOB := Lib.hid (show u.ownBlock ≠ some b ∧ u.ownBlock ≠ some (w.heap.size + 1) ∧ u.ownBlock ≠ some w.heap.size from ⟨fun e => (hog _ e).2.1 rfl, fun e => by have h9 := (hog _ e).1; omega, fun e => by have h9 := (hog _ e).1; omega⟩)
    have HES := Lib.hid hes
    have HOW := Lib.hid hown
    have HEL := Lib.hid he
    have HN := Lib.hid hn
    have HOG := Lib.hid hog
    have HDI := Lib.hid hdis
    clear r1 hd hes hown he hn hog hdis
    go_wp2_with fail
    go_region_law (first
     | (refine step_append_where rfl _ _ _ rfl 108 j0 (.agg #[.int .i64 0, .slice none 0 0]) 2 32 0 hul.out JI.out JZ0.out JZ1.out JZ2.out rfl (by decide) u (x3.take k).length (cells es) rfl (OW4.out.alloc _) ⟨w4.heap.size, 0, none⟩ 1 1 [.int .i64 z, .slice C zs.length c'] rfl rfl (World.news_of_block (cs := #[.int .i64 z, .slice C zs.length c']) (heap_alloc_new w4 _)) (by simp [Value.oneCell']) (by rw [HTL.out]; unfold maxLen; omega) (by rw [HTL.out]; omega) (Nat.zero_le _) ?_; intro v5 w5 hown5 hgrow5 hwh5; (obtain ⟨A5, c5, rfl, _, _, _, _⟩ := RowK.of_own hown5); (have V25 := lvar_grown (V24.alloc (Obj.cells #[.int .i64 z, .slice C zs.length c'] 108)) hgrow5 HOB.out.1); (have v253 : w5.cell? ⟨b, 3, none⟩ = some u := V25.cell 3 u rfl); (have p253 := V25.frozen 3))
     | (go_simp; go_at_call 183; refine (Calls.mono CP.out) ?_; rintro e w4 ⟨C, c', rfl, rC, fC, b4, hcC⟩; (have dd : Below wr.heap.size wr w4 := (Below.refl wr.heap.size wr).drew.trans b4); (have V24 := HV.out.below dd); (have v243 : w4.cell? ⟨b, 3, none⟩ = some u := V24.cell 3 u rfl); (have v4l := V24.lt); (have hs4 : wr.heap.size ≤ w4.heap.size := dd.size); (have OW4 := Lib.hid (HOW.out.kept (StrK.only_below dd none) (by by_cases hv : u.ownBlock = none; exact Or.inl hv; exact Or.inr hv)))))
    all_goals
     have hlt' : ∀ b ∈ fps es, b < wr.heap.size := fun b hb => by
      obtain ⟨e, h6, h7⟩ := List.mem_flatMap.1 hb
      exact lin.lt (HEL.out e h6) b h7
     have ta : Below w4.heap.size w4 (w4.alloc (Obj.cells #[.int .i64 z, .slice C zs.length c'] 108)) := (Below.refl _ _).alloc (Nat.le_refl _) _
     obtain ⟨fpC, q1, q2, q3⟩ := lin_close (q := true) (z := z) (rC.below ta) (fun _ => fC.below rC (by rw [IntK.iv_len]; exact Nat.le_refl _) ta) hcC
     have hvl : ∀ g, v.ownBlock = some g → g < wr.heap.size := fun g e => by
      obtain ⟨es1, _, h7, _⟩ := HS.out
      exact (h7.lt g e).2
     have RR := Owned.snoc (ok := fun i => w.heap.size + 2 ≤ i ∧ i ≠ b ∧ v.ownBlock ≠ some i) (m := wr.heap.size) HES.out (fun e h => Rep.below (Rep.below (HEL.out e h) dd) ta) hlt' HN.out HDI.out (fun g e => ⟨HOG.out g e, (HOW.out.lt g e).2⟩) q1 q2 (fun b hb => (q3 b hb).1) (fun i hi => ⟨by have := HBB.out.size; omega, by omega, fun e => by have := hvl i e; omega⟩) hown5 hgrow5 hwh5 (Nat.le_trans hs4 (by simp))
     rw [← HT.out] at RR
     have hs5 := hgrow5.size
     simp only [World.size_alloc] at hs5
     have SS := ((Owned.below (Owned.below HS.out dd) ta).grown hgrow5 (fun g e h => (HOG.out g e).2.2 h)).set (b := b) (fun h => (HVN.out b h).2 rfl) 3 (.slice A5 ((x3.take k).length + 1) c5)
     have RF := RR.set (b := b) (fun h => h.2.1 rfl) 3 (.slice A5 ((x3.take k).length + 1) c5)
     have W0 := (lvar_grown ((HBX.out.below dd).alloc _) hgrow5 HOB.out.2.2).other (p := ⟨b, 3, none⟩) (by show w.heap.size ≠ b; omega) (.slice A5 ((x3.take k).length + 1) c5)
     have W1 := (lvar_grown ((HZR.out.below dd).alloc _) hgrow5 HOB.out.2.1).other (p := ⟨b, 3, none⟩) (by show w.heap.size + 1 ≠ b; omega) (.slice A5 ((x3.take k).length + 1) c5)
     have W2 := V25.set 3 (.slice A5 ((x3.take k).length + 1) c5)
     have BF := (((HBB.out.trans (dd.mono HBB.out.size)).alloc (Nat.le_trans HBB.out.size hs4) (Obj.cells #[.int .i64 z, .slice C zs.length c'] 108)).grown hgrow5 (by have := HBB.out.size; simp; omega) (fun g e => by have h9 := (HOG.out g e).1; omega)).setCell (p := ⟨b, 3, none⟩) (by show w.heap.size ≤ b; omega) (.slice A5 ((x3.take k).length + 1) c5)
     rw [HTL.out] at RF W0 W1 W2 BF SS
     have FIN := Lib.hid (show Begun w z0 A1 c1 x1 z2 _ c3 x3 b v (.slice A5 (k + 1) c5) (x3.take (k + 1)) _ from ⟨hb2, HVN.out, W2, SS, RF, W0, W1, BF⟩)
     clear RR RF W0 W1 W2 BF SS hown5 hgrow5 hwh5 rC fC b4 dd ta V24 v243 V25 v253 p253 OW4 hlt' g0 g1 HOB q1 q2 q3
     go_wp2
     go_roundw
     case rel => exact ⟨k + 1, .slice A5 (k + 1) c5, by omega, by go_num, FIN.out⟩
     case measure => simp [intOf]; omega
   ·obtain rfl : k = x3.length := by omega
    have hR := HR.out
    rw [List.take_length] at hR
    obtain ⟨D3, d3, f3, rfl, r3, n3, k3⟩ := hR.rep (by decide)
    obtain ⟨D1, d1, f1, rfl, r1, n1, k1⟩ := HS.out.rep (by decide)
    have key : ∀ {t : World}, Mod w.heap.size (w.heap.size + 2) wr t → OwnR fn w.heap.size t.heap.size t [.string z0, .slice D1 x1.length d1, .bool z2, .slice D3 x3.length d3] (z0, x1, z2, x3) ∧ Below w.heap.size w t := fun {t} hm => by
     have hs := hm.size
     have h1 : ∀ i ∈ f1, w.heap.size + 2 ≤ i := fun i hi => (HVN.out i (k1 i hi)).1
     have h3 : ∀ i ∈ f3, w.heap.size + 2 ≤ i := fun i hi => (k3 i hi).1
     have e1 := Rep.keep r1 hm (fun i hi => Or.inr (h1 i hi))
     have e3 := Rep.keep r3 hm (fun i hi => Or.inr (h3 i hi))
     refine ⟨⟨Nat.le_refl _, f1 ++ f3, fn_close z0 z2 e1 e3, List.nodup_append.2 ⟨n1, n3, fun i hi j hj e => ?_⟩, fun i hi => ⟨?_, fn.lt (fn_close z0 z2 e1 e3) i hi⟩⟩, below_mod HBB.out hm (Nat.le_refl _) HBB.out.size⟩
     ·subst e
      exact (k3 i hj).2.2 (k1 i hi)
     ·rcases List.mem_append.1 hi with hi | hi
      ·have := h1 i hi; omega
      ·have := h3 i hi; omega
    have HK := Lib.hid (fun t => @key t)
    have V2 := HV.out
    have v0 : wr.cell? ⟨b, 0, none⟩ = some (.string z0) := V2.cell 0 _ rfl
    have v1 : wr.cell? ⟨b, 1, none⟩ = some (.slice D1 x1.length d1) := V2.cell 1 _ rfl
    have v2 : wr.cell? ⟨b, 2, none⟩ = some (.bool z2) := V2.cell 2 _ rfl
    have V1 := HZR.out
    have l0 := V1.cell 0 _ rfl
    have l1 := V1.cell 1 _ rfl
    have l2 := V1.cell 2 _ rfl
    have l3 := V1.cell 3 _ rfl
    have p0 := V1.frozen 0
    have p1 := V1.frozen 1
    have p2 := V1.frozen 2
    have p3 := V1.frozen 3
    have V1 := Lib.hid V1
    have hbne : w.heap.size + 1 ≠ b := by omega
    clear key r1 r3 k1 k3 n1 n3 hR HR HS V2
    go_wp2
    have VC := (((V1.out.set 0 (Value.string z0)).set 1 (Value.slice D1 x1.length d1)).set 2 (Value.bool z2)).set 3 (Value.slice D3 x3.length d3)
    obtain ⟨i9, hi9, _, hs8, _⟩ := info_parts infoFunction
    refine bodyPost_ret (results_row1 rfl _ _ (w.heap.size + 1) #[.string z0, .slice D1 x1.length d1, .bool z2, .slice D3 x3.length d3] rfl VC Tryz.underlying98 rfl (by rw [hi9, Option.map_some, hs8]; rfl)) rfl ?_
    refine ⟨D1, d1, D3, d3, rfl, HK.out _ ?_⟩
    repeat (first | with_reducible exact Mod.refl _ _ _ | refine Mod.trans ?_ (Mod.set _ (by first | omega | (simp; done) | (simp; omega)) (by first | omega | (simp; done) | (simp; omega)) _))
end ProgS
end Go.Proofs.YtbbllkhmenpnlaaGreat

/-
  Functions of a program: the search, of the model.
-/
namespace Go.Proofs.YtbbllkhmenpnlaaGreat
open Go.RowKit
namespace ProgS
open RowK Mem ProgI

set_option maxHeartbeats 4000000 in
set_option maxRecDepth 100000 in
theorem find (A B : Option Addr) (n c d : Nat) (fs : List FunctionT) (nm : ByteArray) (w : World) (hA : ArgS fn w A fs.length c fs) (hl : fs.length + szs szFunctionU fs ≤ 100000000) :
  Calls Tryz.prog 98 #[.agg #[.slice A fs.length c, .slice B n d], .string nm] w (GaveFnO w (findF fs nm)) := by
 have B0 := Lib.hid (((Below.refl w.heap.size w).alloc (Nat.le_refl _) (Obj.cells #[Value.slice A fs.length c, Value.slice B n d] 27)).alloc (by simp) (Obj.cells #[Value.string ByteArray.empty, Value.slice none 0 0, Value.bool false, Value.slice none 0 0] 98))
 have V0 := Lib.hid (Lvar.new (w.alloc (Obj.cells #[Value.slice A fs.length c, Value.slice B n d] 27)) #[Value.string ByteArray.empty, Value.slice none 0 0, Value.bool false, Value.slice none 0 0] 98)
 have U0 := Lib.hid ((Lvar.new w #[Value.slice A fs.length c, Value.slice B n d] 27).alloc (Obj.cells #[Value.string ByteArray.empty, Value.slice none 0 0, Value.bool false, Value.slice none 0 0] 98))
 simp only [World.size_alloc] at V0
 have HL := Lib.hid hl
 have hxl : fs.length ≤ 1000000000 := by omega
 have HA := Lib.hid hA
 clear hA hl
 go_enter Tryz.func98, Tryz.ntmps98
 go_wp2
 go_loopw [6] (fun i wr => ∃ k : Nat, k ≤ fs.length ∧ i = .int .i64 k ∧ (∀ f ∈ fs.take k, f.1 ≠ nm) ∧ Below w.heap.size w wr ∧ Lvar wr (w.heap.size + 1) #[Value.string ByteArray.empty, Value.slice none 0 0, Value.bool false, Value.slice none 0 0] ∧ Lvar wr w.heap.size #[Value.slice A fs.length c, Value.slice B n d]) (fun i _ => fs.length - (intOf i).toNat)
 case atStart => exact ⟨0, Nat.zero_le _, rfl, by simp, B0.out, V0.out, U0.out⟩
 case round =>
  obtain ⟨k, hk, rfl, hall, hb, hv, hu⟩ := hrel
  have HAL := Lib.hid hall
  have HBB := Lib.hid hb
  have HV := Lib.hid hv
  have HU := Lib.hid hu
  have u0 : wr.cell? ⟨w.heap.size, 0, none⟩ = some (.slice A fs.length c) := hu.cell 0 _ rfl
  have hul := hu.lt
  clear hall hb hv hu V0 B0 U0
  by_cases hlt : k < fs.length
  ·obtain ⟨b, o, A1, c1, A3, c3, rfl, hbb, g0, g1, g2, g3, t1, t3⟩ := (HA.out.below HBB.out).fn_at hlt
   have hs9 := fs_len hlt HL.out
   have HT := Lib.hid (take_snoc hlt)
   have HF := Lib.hid (fun e => find_at hlt HAL.out e)
   generalize fs[k] = x at *
   obtain ⟨z0, x1, z2, x3⟩ := x
   simp only at g0 g1 g2 g3 t1 t3 hs9
   have hi0 : (0 : Int) ≤ (k : Int) := by omega
   have hi1 : (k : Int) < (fs.length : Int) := by omega
   by_cases he : z0 = nm
   ·subst he
    have CP := Lib.hid (fun W (h : Below wr.heap.size wr W) => copyFn z0 A1 c1 x1 z2 A3 c3 x3 W (t1.below h) (t3.below h) hs9)
    have HFF := Lib.hid (HF.out rfl)
    have HVL := Lib.hid HV.out.lt
    clear HF t1 t3
    go_wp2_with fail
    refine (Calls.mono (CP.out _ (by first | exact Below.refl _ _ | exact (Below.refl _ _).drew | exact below_drewN (Below.refl _ _) _))) ?_
    rintro e w1 ⟨D1, d1, D3, d3, rfl, o1, b1⟩
    have O1 := Lib.hid o1
    have bw : Below wr.heap.size wr w1 := by first | exact b1 | exact (Below.refl wr.heap.size wr).drew.trans b1 | exact (below_drewN (Below.refl wr.heap.size wr) _).trans b1
    have hz := bw.size
    have B1 := Lib.hid (HBB.out.trans (bw.mono HBB.out.size))
    have V1 := HV.out.below bw
    have cV0 := V1.cell 0 _ rfl
    have cV1 := V1.cell 1 _ rfl
    have cV2 := V1.cell 2 _ rfl
    have cV3 := V1.cell 3 _ rfl
    have yV0 := V1.frozen 0
    have yV1 := V1.frozen 1
    have yV2 := V1.frozen 2
    have yV3 := V1.frozen 3
    have V1 := Lib.hid V1
    clear o1 b1 bw u0
    go_wp2
    have VC := (((V1.out.set 0 (Value.string z0)).set 1 (Value.slice D1 x1.length d1)).set 2 (Value.bool z2)).set 3 (Value.slice D3 x3.length d3)
    obtain ⟨i9, hi9, _, hs8, _⟩ := info_parts infoFunction
    refine bodyPost_ret (results_row2 rfl _ _ (w.heap.size + 1) #[.string z0, .slice D1 x1.length d1, .bool z2, .slice D3 x3.length d3] rfl rfl VC Tryz.underlying98 rfl (by rw [hi9, Option.map_some, hs8]; rfl)) rfl ?_
    have key : ∀ {u : World}, Mod w.heap.size (w.heap.size + 2) w1 u → OwnR fn w.heap.size u.heap.size u [.string z0, .slice D1 x1.length d1, .bool z2, .slice D3 x3.length d3] (z0, x1, z2, x3) ∧ Below w.heap.size w u := fun {u} hm => by
     have hs := hm.size
     have h5 := HVL.out
     have h6 := O1.out
     have h7 : wr.heap.size ≤ wr.heap.size := Nat.le_refl _
     exact ⟨(OwnR.keep h6 hm (Or.inr (by first | omega | (simp; omega)))).wider (by first | omega | (simp; omega)) (by omega) (Nat.le_refl _), below_mod B1.out hm (Nat.le_refl _) B1.out.size⟩
    rw [HFF.out]
    refine ⟨D1, d1, D3, d3, rfl, key ?_⟩
    repeat (first | with_reducible exact Mod.refl _ _ _ | refine Mod.trans ?_ (Mod.set _ (by first | omega | (simp; done) | (simp; omega)) (by first | omega | (simp; done) | (simp; omega)) _))
   ·have hs := str_ne he
    have HN := Lib.hid he
    clear HF t1 t3 he
    go_wp2
    go_roundw
    case rel => exact ⟨k + 1, by omega, by go_num, by
     rw [HT.out]
     intro f hf
     rcases List.mem_append.1 hf with hf | hf
     ·exact HAL.out f hf
     ·rw [List.mem_singleton.1 hf]; exact HN.out, by first | exact HBB.out | exact below_drewN HBB.out _, by first | exact HV.out | exact HV.out.below (below_drewN (Below.refl _ _) _), by first | exact HU.out | exact HU.out.below (below_drewN (Below.refl _ _) _)⟩
    case measure => simp [intOf]; omega
  ·obtain rfl : k = fs.length := by omega
   have HR := Lib.hid (find_none (nm := nm) (by have := HAL.out; rwa [List.take_length] at this))
   have V1 := HV.out
   have cV0 := V1.cell 0 _ rfl
   have cV1 := V1.cell 1 _ rfl
   have cV2 := V1.cell 2 _ rfl
   have cV3 := V1.cell 3 _ rfl
   have yV0 := V1.frozen 0
   have yV1 := V1.frozen 1
   have yV2 := V1.frozen 2
   have yV3 := V1.frozen 3
   have V1 := Lib.hid V1
   go_wp2
   have VC := (((V1.out.set 0 (Value.string ByteArray.empty)).set 1 (Value.slice none 0 0)).set 2 (Value.bool false)).set 3 (Value.slice none 0 0)
   obtain ⟨i9, hi9, _, hs8, _⟩ := info_parts infoFunction
   refine bodyPost_ret (results_row2 rfl _ _ (w.heap.size + 1) #[.string ByteArray.empty, .slice none 0 0, .bool false, .slice none 0 0] rfl rfl VC Tryz.underlying98 rfl (by rw [hi9, Option.map_some, hs8]; rfl)) rfl ?_
   rw [HR.out]
   have key : ∀ {u : World}, Mod w.heap.size (w.heap.size + 2) wr u → OwnR fn w.heap.size u.heap.size u [.string ByteArray.empty, .slice none 0 0, .bool false, .slice none 0 0] zeroF ∧ Below w.heap.size w u := fun {u} hm => by
    have hs := hm.size
    have h5 := HBB.out.size
    exact ⟨own_zero (by omega), below_mod HBB.out hm (Nat.le_refl _) HBB.out.size⟩
   refine ⟨none, 0, none, 0, rfl, key ?_⟩
   repeat (first | with_reducible exact Mod.refl _ _ _ | refine Mod.trans ?_ (Mod.set _ (by first | omega | (simp; done) | (simp; omega)) (by first | omega | (simp; done) | (simp; omega)) _))
end ProgS
end Go.Proofs.YtbbllkhmenpnlaaGreat
