import Derived.Test.YtjjhpabmhnincaaGreatDoorDrawOnce
import Derived.Test.YtjjhpabmhnincaaGreatDoorRepGen
import Derived.Test.YtjjhpabmhnincaaGreatDoorLinImpl2
import Derived.Deep.RegionHeld3
import Derived.Deep.DeepCutAuto
import Derived.Deep.RegionLawGrows
import Derived.Deep.AppendLies
/-
  The draws of the fourth chapter: linear expressions.
-/
namespace Go.Proofs.YtjjhpabmhnincaaGreatDoor
open Go.RowKit
namespace Draw
open RowK

theorem mod_only {w w' : World} {g o : Nat} (h : StrK.Only w w' (some ⟨g, o, none⟩)) : Mod g (g + 1) w w' :=
  ⟨h.os, h.tape, h.output, h.size, fun i hi hn => h.block i hi (by intro e; simp at e; omega)⟩
theorem mod_new {lo hi : Nat} {w w' : World} (h : Mod lo hi w w') {p : Addr} (hp : w.heap.size ≤ p.block) (v : Value) : Mod lo hi w (w'.setCell p v) :=
  ⟨h.os, h.tape, h.output, Nat.le_trans h.size (by simp), fun i hi hn => by rw [Below.heap_setCell _ _ _ _ (by omega)]; exact h.block i hi hn⟩
theorem mod_alloc {lo hi : Nat} {w w' : World} (h : Mod lo hi w w') (o : Obj) : Mod lo hi w (w'.alloc o) := h.trans (Mod.alloc _ _ _ _)

/-- A cursor stays where only younger blocks were written. -/
theorem Cur.mod {w w' : World} {g lo hi : Nat} {A : Option Addr} {n c : Nat} (h : Cur w g A n c) (m : Mod lo hi w w') (hg : g < lo) : Cur w' g A n c := by
  have hlt := h.lt
  obtain ⟨hc, ha, i, x, h1, h2, hh⟩ := h
  refine ⟨fun hn => ?_, ha, i, x, h1, h2, ?_⟩
  · obtain ⟨b, o, rfl, hb, hcell⟩ := hc hn
    have hbg := ha _ rfl hn
    exact ⟨b, o, rfl, Nat.lt_of_lt_of_le hb m.size, fun j hj => by
      obtain ⟨y, y0, y1, hy⟩ := hcell j hj
      exact ⟨y, y0, y1, m.cell hy (by have : b < g := hbg; omega)⟩⟩
  · rw [m.block g hlt (by omega)]; exact hh

/-- What a function of the cursor leaves: the cursor, and nothing else that was there has turned. -/
def Kept (w : World) (g : Nat) (A : Option Addr) (n c : Nat) (w' : World) : Prop := Cur w' g A n c ∧ Mod g (g + 1) w w'
theorem Left.kept {w w' : World} {g : Nat} {A : Option Addr} {n c : Nat} (h : Left w g A n c w') : Kept w g A n c w' := ⟨h.1, mod_only h.2⟩
theorem Kept.trans {w w1 w2 : World} {g : Nat} {A : Option Addr} {n c : Nat} (h : Kept w g A n c w1) (k : Kept w1 g A n c w2) : Kept w g A n c w2 := ⟨k.1, h.2.trans k.2⟩
theorem Kept.alloc {w w' : World} {g : Nat} {A : Option Addr} {n c : Nat} (h : Kept w g A n c w') (o : Obj) : Kept w g A n c (w'.alloc o) := ⟨h.1.keep ((Below.refl _ _).alloc (Nat.le_refl _) _), mod_alloc h.2 o⟩
theorem Kept.drew {w w' : World} {g : Nat} {A : Option Addr} {n c : Nat} (h : Kept w g A n c w') : Kept w g A n c w'.drew := ⟨h.1.keep (Below.refl _ _).drew, h.2.drew⟩
theorem Kept.drewN {w w' : World} {g : Nat} {A : Option Addr} {n c : Nat} (h : Kept w g A n c w') (k : Nat) : Kept w g A n c (w'.drewN k) := ⟨h.1.keep (below_drewN (Below.refl _ _) k), h.2.drewN k⟩
theorem Kept.set {w w' : World} {g : Nat} {A : Option Addr} {n c : Nat} (h : Kept w g A n c w') (hg : g < w.heap.size) {p : Addr} (hp : w.heap.size ≤ p.block) (v : Value) : Kept w g A n c (w'.setCell p v) :=
  ⟨h.1.mod (Mod.set w' (p := p) (Nat.le_refl _) (Nat.lt_succ_self _) v) (by omega), mod_new h.2 hp v⟩
theorem kept_refl {w : World} {g : Nat} {A : Option Addr} {n c : Nat} (h : Cur w g A n c) : Kept w g A n c w := ⟨h, Mod.refl _ _ _⟩
theorem kept_new {w w1 w' : World} {g : Nat} {A : Option Addr} {n c : Nat} (h : Below w.heap.size w w1) (hg : w.heap.size ≤ g) (k : Kept w1 g A n c w') : Below w.heap.size w w' := below_mod h k.2 hg h.size

/-- The small numbers. -/
def smalls : List Int := [0, 0, 1, -1, 1, 2, -2, 3]
theorem smalls_range : ∀ x ∈ smalls, -3 ≤ x ∧ x ≤ 3 := by decide

/-- Inside a drawing: the cursor, and the result's block as it was made. -/
def SH (w : World) (g : Nat) (A : Option Addr) (n c : Nat) (cs : Array Value) (W : World) : Prop := Kept w g A n c W ∧ Lvar W w.heap.size cs
theorem SH.alloc {w W : World} {g n c : Nat} {A : Option Addr} {cs : Array Value} (h : SH w g A n c cs W) (o : Obj) : SH w g A n c cs (W.alloc o) := ⟨h.1.alloc o, h.2.alloc o⟩
theorem SH.call {w W W' : World} {g n c : Nat} {A : Option Addr} {cs : Array Value} (h : SH w g A n c cs W) (hg : g < w.heap.size) (k : Kept W g A n c W') : SH w g A n c cs W' := ⟨h.1.trans k, h.2.keep k.2 (by omega)⟩
theorem SH.set {w W : World} {g n c : Nat} {A : Option Addr} {cs : Array Value} (h : SH w g A n c cs W) (hg : g < w.heap.size) {p : Addr} (hp : w.heap.size + 1 ≤ p.block) (v : Value) : SH w g A n c cs (W.setCell p v) := ⟨h.1.set hg (by omega) v, h.2.other (by omega) v⟩

/-- Behind the making of an expression of zeros. -/
def Zeros (w : World) (g : Nat) (A : Option Addr) (n c m : Nat) (s : Value) (wx : World) : Prop :=
  ∃ (b : Nat) (a : Addr) (z : Int), s = .pointer (some ⟨b, 0, none⟩) ∧ (-4 ≤ z ∧ z ≤ 4) ∧ w.heap.size + 1 ≤ b ∧ a.block ≠ b ∧ Lvar wx b #[.int .i64 z, .slice (some a) m m] ∧ IntK.Own (w.heap.size + 1) wx.heap.size wx (some a) (List.replicate m 0) ∧ Kept w g A n c wx

/-- A small linear expression in new memory. -/
def SomeLin (w : World) (g : Nat) (A : Option Addr) (n c : Nat) (P : Int → List Int → Nat → Prop) (e : Ending) (w' : World) : Prop :=
  ∃ z zs B d, e = .returned (.agg #[.int .i64 z, .slice B zs.length d]) ∧ P z zs d ∧ zs.length ≤ d ∧ IntK.Own w.heap.size w'.heap.size w' B zs ∧ Kept w g A n c w'

def Small4 (m : Nat) (z : Int) (zs : List Int) (d : Nat) : Prop := (-4 ≤ z ∧ z ≤ 4) ∧ zs.length = m ∧ d = m ∧ ∀ x ∈ zs, -3 ≤ x ∧ x ≤ 3

theorem new1 (w : World) (o : Obj) (cs : Array Value) (T : TypeId) : Lvar ((w.alloc o).alloc (Obj.cells cs T)) (w.heap.size + 1) cs := by
  have := Lvar.new (w.alloc o) cs T
  rwa [World.size_alloc] at this
theorem new2 (w : World) (o o' : Obj) (cs : Array Value) (T : TypeId) : Lvar (((w.alloc o).alloc o').alloc (Obj.cells cs T)) (w.heap.size + 1 + 1) cs := by
  have := new1 (w.alloc o) o' cs T
  rwa [World.size_alloc] at this
theorem zeros_mk {w wx : World} {g n c m a b : Nat} {A : Option Addr} {z : Int} (hz : -4 ≤ z ∧ z ≤ 4) (hb : Lvar wx b #[.int .i64 z, .slice (some ⟨a, 0, none⟩) m m]) (ha : Lvar wx a (madeCells #[Value.int IntKind.i64 0] m)) (hab : a ≠ b) (h1 : w.heap.size + 1 ≤ a) (h2 : w.heap.size + 1 ≤ b) (k : Kept w g A n c wx) :
    Zeros w g A n c m (.pointer (some ⟨b, 0, none⟩)) wx := by
  have hr := ha.row
  rw [toList_madeCells_one, size_madeCells] at hr
  have hl := ha.lt
  refine ⟨b, ⟨a, 0, none⟩, z, rfl, hz, h2, hab, hb, ⟨?_, ?_⟩, k⟩
  · rw [show IntK.iv (List.replicate m 0) = List.replicate m (.int .i64 0) by simp [IntK.iv]]
    exact hr.1.wider h1 hl (Nat.le_refl _)
  · rw [List.length_replicate]; exact hr.2
theorem newset (w : World) (p q : Addr) (u v : Value) (cs : Array Value) (T : TypeId) : Lvar (((w.setCell p u).setCell q v).alloc (Obj.cells cs T)) w.heap.size cs := by
  have := Lvar.new ((w.setCell p u).setCell q v) cs T
  simpa using this
theorem set01 {w : World} {b : Nat} {x y u v : Value} (h : Lvar w b #[x, y]) : Lvar ((w.setCell ⟨b, 0, none⟩ u).setCell ⟨b, 1, none⟩ v) b #[u, v] := by
  have := (h.set 0 u).set 1 v
  simpa using this
theorem other01 {w : World} {a b : Nat} {cs : Array Value} {u v : Value} (h : Lvar w a cs) (hab : a ≠ b) : Lvar ((w.setCell ⟨b, 0, none⟩ u).setCell ⟨b, 1, none⟩ v) a cs := (h.other hab u).other hab v

end Draw
end Go.Proofs.YtjjhpabmhnincaaGreatDoor

/-
  The draws of the fourth chapter: a linear expression that may be out of range, or too long.
-/
namespace Go.Proofs.YtjjhpabmhnincaaGreatDoor
open Go.RowKit
namespace Draw
open RowK

def I64 (x : Int) : Prop := -9223372036854775808 ≤ x ∧ x ≤ 9223372036854775807
def Any4 (z : Int) (zs : List Int) (_ : Nat) : Prop := I64 z ∧ zs.length ≤ 9 ∧ ∀ x ∈ zs, I64 x

/-- The result is laid into its block. -/
theorem some_fin {w wr : World} {g n c lo hi d : Nat} {A B : Option Addr} {z : Int} {zs : List Int} {P : Int → List Int → Nat → Prop} (hg : g < w.heap.size) (hK : Kept w g A n c wr) (hO : IntK.Own lo hi wr B zs) (h1 : w.heap.size + 1 ≤ lo) (h2 : hi ≤ wr.heap.size) (hP : P z zs d) (hd : zs.length ≤ d) :
    SomeLin w g A n c P (.returned (.agg #[.int .i64 z, .slice B zs.length d])) ((wr.setCell ⟨w.heap.size, 0, none⟩ (.int .i64 z)).setCell ⟨w.heap.size, 1, none⟩ (.slice B zs.length d)) := by
  have mm : Mod w.heap.size (w.heap.size + 1) wr ((wr.setCell ⟨w.heap.size, 0, none⟩ (.int .i64 z)).setCell ⟨w.heap.size, 1, none⟩ (.slice B zs.length d)) := (Mod.set _ (p := ⟨w.heap.size, 0, none⟩) (Nat.le_refl _) (Nat.lt_succ_self _) _).trans (Mod.set _ (p := ⟨w.heap.size, 1, none⟩) (Nat.le_refl _) (Nat.lt_succ_self _) _)
  have hO' := hO.keep mm (Or.inr h1)
  exact ⟨z, zs, B, d, rfl, hP, hd, ⟨hO'.1.wider (by omega) (Nat.le_trans h2 mm.size) (Nat.le_refl _), hO'.2⟩, (hK.set hg (p := ⟨w.heap.size, 0, none⟩) (Nat.le_refl _) _).set hg (p := ⟨w.heap.size, 1, none⟩) (Nat.le_refl _) _⟩

theorem rows_at {lo hi : Nat} {w : World} {B : Option Addr} {vs : List Value} {b : Addr} (h : Row lo hi w B vs) (e : B = some b) (j : Nat) (u : Value) (hu : vs[j]? = some u) : w.cell? (b.add j) = some u := by
  obtain ⟨b', o', e', _, hc⟩ := h (fun e => by rw [e] at hu; simp at hu)
  rw [e] at e'
  injection e' with e'
  subst e'
  rw [show (⟨b', o', none⟩ : Addr).add j = ⟨b', o' + j, none⟩ by unfold Addr.add; split <;> simp_all]
  exact hc j u hu
theorem Kept.below {w w' w2 : World} {g n c : Nat} {A : Option Addr} (h : Kept w g A n c w') (hb : Below w'.heap.size w' w2) : Kept w g A n c w2 := ⟨h.1.keep hb, h.2.trans (Mod.of_below hb)⟩

end Draw
end Go.Proofs.YtjjhpabmhnincaaGreatDoor

/-
  The draws of the sixth chapter: a small system.
-/
namespace Go.Proofs.YtjjhpabmhnincaaGreatDoor
open Go.RowKit
namespace Draw
open RowK Mem LinM

theorem grown_of_mod {g : Nat} {w w' : World} (h : Mod g (g + 1) w w') : w.grownBy w' (some g) := ⟨h.os, h.tape, h.output, h.size, fun i hi hn => h.block i hi (by rcases Nat.lt_trichotomy i g with h1 | h1 | h1; exact Or.inl h1; exact absurd (by rw [h1]) hn; exact Or.inr h1)⟩
theorem Cur.grow {w w' : World} {g : Nat} {A : Option Addr} {n c : Nat} {row : Option Nat} (h : Cur w g A n c) (hg : w.grownBy w' row) (hr : ∀ r, row = some r → g < r) : Cur w' g A n c := by
  have hlt := h.lt
  obtain ⟨hc, ha, i, x, h1, h2, hh⟩ := h
  have hne : some g ≠ row := fun e => by have := hr g e.symm; omega
  refine ⟨fun hn => ?_, ha, i, x, h1, h2, by rw [hg.block g hlt hne]; exact hh⟩
  obtain ⟨b, o, rfl, hbl, hcell⟩ := hc hn
  have hbg := ha _ rfl hn
  refine ⟨b, o, rfl, Nat.lt_of_lt_of_le hbl hg.size, fun j hj => ?_⟩
  obtain ⟨y, h0, h255, hy⟩ := hcell j hj
  refine ⟨y, h0, h255, ?_⟩
  rw [World.cell?_of_block (w := w) (hg.block b hbl (fun e => by have := hr b e.symm; have e2 : (⟨b, o, none⟩ : Addr).block = b := rfl; omega))]
  exact hy
theorem Kept.grown {w w' w2 : World} {g n c : Nat} {A : Option Addr} {row : Option Nat} (h : Kept w g A n c w') (hg : w'.grownBy w2 row) (hgl : g < w.heap.size) (hr : ∀ r, row = some r → w.heap.size ≤ r) : Kept w g A n c w2 :=
  ⟨h.1.grow hg (fun r e => by have := hr r e; omega), hg.os.trans h.2.os, hg.tape.trans h.2.tape, hg.output.trans h.2.output, Nat.le_trans h.2.size hg.size, fun i hi hn => (hg.block i (Nat.lt_of_lt_of_le hi h.2.size) (fun e => by have := hr i e.symm; omega)).trans (h.2.block i hi hn)⟩
theorem owned_mod {α : Type} {r : Rep α} {e : TypeId} {ok : Nat → Prop} {w w' : World} {v : Value} {xs : List α} {g : Nat} (h : Owned r e ok w v xs) (m : Mod g (g + 1) w w') (hg : ¬ ok g) : Owned r e ok w' v xs := h.grown (grown_of_mod m) (fun b e => by injection e with e; subst e; exact hg)

/-- A small system in new memory. -/
def SomeSys (w : World) (g : Nat) (A : Option Addr) (n c : Nat) (P : Int → List (Int × List Int) → Prop) (e : Ending) (w' : World) : Prop :=
  ∃ (N : Int) (v : Value) (xs : List (Int × List Int)), e = .returned (.agg #[.int .i64 N, v]) ∧ P N xs ∧ Owned lin 67 (fun b => w.heap.size ≤ b) w' v xs ∧ Kept w g A n c w'
def Small6 (m : Nat) (N : Int) (xs : List (Int × List Int)) : Prop := N = m ∧ xs.length ≤ 4 ∧ ∀ x ∈ xs, x.2.length = m
def DrawRel (w : World) (g : Nat) (A : Option Addr) (n c m : Nat) (i : Value) (wr : World) : Prop :=
  ∃ (k : Nat) (v : Value) (xs : List (Int × List Int)), k ≤ 4 ∧ i = .int .i64 k ∧ xs.length = k ∧ (∀ x ∈ xs, x.2.length = m) ∧ Owned lin 67 (fun b => w.heap.size + 2 ≤ b) wr v xs ∧ Lvar wr w.heap.size #[.int .i64 0, .slice none 0 0] ∧ Lvar wr (w.heap.size + 1) #[.int .i64 m, v] ∧ Kept w g A n c wr
theorem linsSize_le {m : Nat} : ∀ {xs : List (Int × List Int)}, (∀ x ∈ xs, x.2.length ≤ m) → linsSize xs ≤ xs.length * (m + 1)
  | [], _ => by simp [linsSize]
  | x :: xs, h => by
    have h1 := linsSize_le (xs := xs) (fun y hy => h y (List.mem_cons_of_mem _ hy))
    have h2 := h x List.mem_cons_self
    rw [linsSize_cons, List.length_cons, Nat.succ_mul]
    omega

end Draw
end Go.Proofs.YtjjhpabmhnincaaGreatDoor
