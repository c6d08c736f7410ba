import Derived.Test.YtiilopfhlmeaoaaGreatDoorDrawOnce
import Derived.Test.YtiilopfhlmeaoaaGreatDoorRepGen
import Derived.Test.YtiilopfhlmeaoaaGreatDoorLinImpl
import Derived.Test.YtiilopfhlmeaoaaGreatDoorShelf
import Derived.OwnWalk
import Derived.Deep.RegionLaw
import Derived.Deep.RegionHeld3
import Derived.Deep.DeepCutAuto
import Derived.Deep.RegionLawGrows
import Derived.Deep.AppendLies
import Derived.Test.YtiilopfhlmeaoaaGreatDoorProg
import Derived.Lib.Hide
import Derived.Deep.QuietTactic
import Derived.BigQuiet
/-
  The draws of the fourth chapter: linear expressions.
-/
namespace Go.Proofs.YtiilopfhlmeaoaaGreatDoor
open Go.RowKit
namespace Draw
open RowK

theorem mod_only {w w' : World} {g o : Nat} (h : StrK.Only w w' (some ⟨g, o, none⟩)) : Mod g (g + 1) w w' :=
  ⟨h.os, h.tape, h.output, h.size, fun i hi hn => h.block i hi (by intro e; simp at e; omega)⟩
theorem mod_new {lo hi : Nat} {w w' : World} (h : Mod lo hi w w') {p : Addr} (hp : w.heap.size ≤ p.block) (v : Value) : Mod lo hi w (w'.setCell p v) :=
  ⟨h.os, h.tape, h.output, Nat.le_trans h.size (by simp), fun i hi hn => by rw [Below.heap_setCell _ _ _ _ (by omega)]; exact h.block i hi hn⟩
theorem mod_alloc {lo hi : Nat} {w w' : World} (h : Mod lo hi w w') (o : Obj) : Mod lo hi w (w'.alloc o) := h.trans (Mod.alloc _ _ _ _)

/-- A cursor stays where only younger blocks were written. -/
theorem Cur.mod {w w' : World} {g lo hi : Nat} {A : Option Addr} {n c : Nat} (h : Cur w g A n c) (m : Mod lo hi w w') (hg : g < lo) : Cur w' g A n c := by
  have hlt := h.lt
  obtain ⟨hc, ha, i, x, h1, h2, hh⟩ := h
  refine ⟨fun hn => ?_, ha, i, x, h1, h2, ?_⟩
  · obtain ⟨b, o, rfl, hb, hcell⟩ := hc hn
    have hbg := ha _ rfl hn
    exact ⟨b, o, rfl, Nat.lt_of_lt_of_le hb m.size, fun j hj => by
      obtain ⟨y, y0, y1, hy⟩ := hcell j hj
      exact ⟨y, y0, y1, m.cell hy (by have : b < g := hbg; omega)⟩⟩
  · rw [m.block g hlt (by omega)]; exact hh

/-- What a function of the cursor leaves: the cursor, and nothing else that was there has turned. -/
def Kept (w : World) (g : Nat) (A : Option Addr) (n c : Nat) (w' : World) : Prop := Cur w' g A n c ∧ Mod g (g + 1) w w'
theorem Left.kept {w w' : World} {g : Nat} {A : Option Addr} {n c : Nat} (h : Left w g A n c w') : Kept w g A n c w' := ⟨h.1, mod_only h.2⟩
theorem Kept.trans {w w1 w2 : World} {g : Nat} {A : Option Addr} {n c : Nat} (h : Kept w g A n c w1) (k : Kept w1 g A n c w2) : Kept w g A n c w2 := ⟨k.1, h.2.trans k.2⟩
theorem Kept.alloc {w w' : World} {g : Nat} {A : Option Addr} {n c : Nat} (h : Kept w g A n c w') (o : Obj) : Kept w g A n c (w'.alloc o) := ⟨h.1.keep ((Below.refl _ _).alloc (Nat.le_refl _) _), mod_alloc h.2 o⟩
theorem Kept.drew {w w' : World} {g : Nat} {A : Option Addr} {n c : Nat} (h : Kept w g A n c w') : Kept w g A n c w'.drew := ⟨h.1.keep (Below.refl _ _).drew, h.2.drew⟩
theorem Kept.drewN {w w' : World} {g : Nat} {A : Option Addr} {n c : Nat} (h : Kept w g A n c w') (k : Nat) : Kept w g A n c (w'.drewN k) := ⟨h.1.keep (below_drewN (Below.refl _ _) k), h.2.drewN k⟩
theorem Kept.set {w w' : World} {g : Nat} {A : Option Addr} {n c : Nat} (h : Kept w g A n c w') (hg : g < w.heap.size) {p : Addr} (hp : w.heap.size ≤ p.block) (v : Value) : Kept w g A n c (w'.setCell p v) :=
  ⟨h.1.mod (Mod.set w' (p := p) (Nat.le_refl _) (Nat.lt_succ_self _) v) (by omega), mod_new h.2 hp v⟩
theorem kept_refl {w : World} {g : Nat} {A : Option Addr} {n c : Nat} (h : Cur w g A n c) : Kept w g A n c w := ⟨h, Mod.refl _ _ _⟩
theorem kept_new {w w1 w' : World} {g : Nat} {A : Option Addr} {n c : Nat} (h : Below w.heap.size w w1) (hg : w.heap.size ≤ g) (k : Kept w1 g A n c w') : Below w.heap.size w w' := below_mod h k.2 hg h.size

/-- Inside a drawing: the cursor, and the result's block as it was made. -/
def SH (w : World) (g : Nat) (A : Option Addr) (n c : Nat) (cs : Array Value) (W : World) : Prop := Kept w g A n c W ∧ Lvar W w.heap.size cs
theorem SH.alloc {w W : World} {g n c : Nat} {A : Option Addr} {cs : Array Value} (h : SH w g A n c cs W) (o : Obj) : SH w g A n c cs (W.alloc o) := ⟨h.1.alloc o, h.2.alloc o⟩
theorem SH.call {w W W' : World} {g n c : Nat} {A : Option Addr} {cs : Array Value} (h : SH w g A n c cs W) (hg : g < w.heap.size) (k : Kept W g A n c W') : SH w g A n c cs W' := ⟨h.1.trans k, h.2.keep k.2 (by omega)⟩
theorem SH.set {w W : World} {g n c : Nat} {A : Option Addr} {cs : Array Value} (h : SH w g A n c cs W) (hg : g < w.heap.size) {p : Addr} (hp : w.heap.size + 1 ≤ p.block) (v : Value) : SH w g A n c cs (W.setCell p v) := ⟨h.1.set hg (by omega) v, h.2.other (by omega) v⟩

theorem new1 (w : World) (o : Obj) (cs : Array Value) (T : TypeId) : Lvar ((w.alloc o).alloc (Obj.cells cs T)) (w.heap.size + 1) cs := by
  have := Lvar.new (w.alloc o) cs T
  rwa [World.size_alloc] at this
end Draw
end Go.Proofs.YtiilopfhlmeaoaaGreatDoor

/-
  The draws of the fourth chapter: a linear expression that may be out of range, or too long.
-/
namespace Go.Proofs.YtiilopfhlmeaoaaGreatDoor
open Go.RowKit
namespace Draw
open RowK

theorem Kept.below {w w' w2 : World} {g n c : Nat} {A : Option Addr} (h : Kept w g A n c w') (hb : Below w'.heap.size w' w2) : Kept w g A n c w2 := ⟨h.1.keep hb, h.2.trans (Mod.of_below hb)⟩

end Draw
end Go.Proofs.YtiilopfhlmeaoaaGreatDoor

/-
  The draws of the sixth chapter: a small system.
-/
namespace Go.Proofs.YtiilopfhlmeaoaaGreatDoor
open Go.RowKit
namespace Draw
open RowK Mem LinM

theorem grown_of_mod {g : Nat} {w w' : World} (h : Mod g (g + 1) w w') : w.grownBy w' (some g) := ⟨h.os, h.tape, h.output, h.size, fun i hi hn => h.block i hi (by rcases Nat.lt_trichotomy i g with h1 | h1 | h1; exact Or.inl h1; exact absurd (by rw [h1]) hn; exact Or.inr h1)⟩
theorem Cur.grow {w w' : World} {g : Nat} {A : Option Addr} {n c : Nat} {row : Option Nat} (h : Cur w g A n c) (hg : w.grownBy w' row) (hr : ∀ r, row = some r → g < r) : Cur w' g A n c := by
  have hlt := h.lt
  obtain ⟨hc, ha, i, x, h1, h2, hh⟩ := h
  have hne : some g ≠ row := fun e => by have := hr g e.symm; omega
  refine ⟨fun hn => ?_, ha, i, x, h1, h2, by rw [hg.block g hlt hne]; exact hh⟩
  obtain ⟨b, o, rfl, hbl, hcell⟩ := hc hn
  have hbg := ha _ rfl hn
  refine ⟨b, o, rfl, Nat.lt_of_lt_of_le hbl hg.size, fun j hj => ?_⟩
  obtain ⟨y, h0, h255, hy⟩ := hcell j hj
  refine ⟨y, h0, h255, ?_⟩
  rw [World.cell?_of_block (w := w) (hg.block b hbl (fun e => by have := hr b e.symm; have e2 : (⟨b, o, none⟩ : Addr).block = b := rfl; omega))]
  exact hy
theorem Kept.grown {w w' w2 : World} {g n c : Nat} {A : Option Addr} {row : Option Nat} (h : Kept w g A n c w') (hg : w'.grownBy w2 row) (hgl : g < w.heap.size) (hr : ∀ r, row = some r → w.heap.size ≤ r) : Kept w g A n c w2 :=
  ⟨h.1.grow hg (fun r e => by have := hr r e; omega), hg.os.trans h.2.os, hg.tape.trans h.2.tape, hg.output.trans h.2.output, Nat.le_trans h.2.size hg.size, fun i hi hn => (hg.block i (Nat.lt_of_lt_of_le hi h.2.size) (fun e => by have := hr i e.symm; omega)).trans (h.2.block i hi hn)⟩
theorem owned_mod {α : Type} {r : Rep α} {e : TypeId} {ok : Nat → Prop} {w w' : World} {v : Value} {xs : List α} {g : Nat} (h : Owned r e ok w v xs) (m : Mod g (g + 1) w w') (hg : ¬ ok g) : Owned r e ok w' v xs := h.grown (grown_of_mod m) (fun b e => by injection e with e; subst e; exact hg)

end Draw
end Go.Proofs.YtiilopfhlmeaoaaGreatDoor
