import Derived.WalkKit
import Derived.WalkSpells
import Derived.WalkLawsBesides
import Derived.OwnWalk
import Derived.Deep.RegionLaw
import Derived.Deep.RegionLawGrows
/-
  Rows of cells in memory, with the stretch of blocks in which they lie ('Row'), and what a call may have written ('Mod').
-/
namespace Go.Proofs.YtaepfdgfjcdidaaGreatDoor
open Go.RowKit
namespace RowK

/-- Behind the call only the blocks from lo to hi, and what is new, may have turned. -/
structure Mod (lo hi : Nat) (w w' : World) : Prop where
  os : w'.os = w.os
  tape : w'.tape = w.tape
  output : w'.output = w.output
  size : w.heap.size ≤ w'.heap.size
  block : ∀ i, i < w.heap.size → (i < lo ∨ hi ≤ i) → w'.heap[i]? = w.heap[i]?

theorem Mod.refl (lo hi : Nat) (w : World) : Mod lo hi w w := ⟨rfl, rfl, rfl, Nat.le_refl _, fun _ _ _ => rfl⟩
theorem Mod.trans {lo hi : Nat} {a b c : World} (h : Mod lo hi a b) (k : Mod lo hi b c) : Mod lo hi a c :=
  ⟨k.os.trans h.os, k.tape.trans h.tape, k.output.trans h.output, Nat.le_trans h.size k.size, fun i hi hn => (k.block i (Nat.lt_of_lt_of_le hi h.size) hn).trans (h.block i hi hn)⟩
theorem Mod.of_below {lo hi : Nat} {w w' : World} (h : Below w.heap.size w w') : Mod lo hi w w' := ⟨h.os, h.tape, h.output, h.size, fun i hi _ => h.block i hi⟩
theorem Mod.set {lo hi : Nat} (w : World) {p : Addr} (h1 : lo ≤ p.block) (h2 : p.block < hi) (v : Value) : Mod lo hi w (w.setCell p v) :=
  ⟨rfl, rfl, rfl, by simp [World.setCell], fun i _ hn => Below.heap_setCell _ _ _ _ (by omega)⟩
theorem Mod.alloc (lo hi : Nat) (w : World) (o : Obj) : Mod lo hi w (w.alloc o) := Mod.of_below ((Below.refl _ _).alloc (Nat.le_refl _) o)
theorem Mod.wider {lo hi lo' hi' : Nat} {w w' : World} (h : Mod lo hi w w') (h1 : lo' ≤ lo) (h2 : hi ≤ hi') : Mod lo' hi' w w' :=
  ⟨h.os, h.tape, h.output, h.size, fun i hi hn => h.block i hi (by omega)⟩
theorem Mod.drewN {lo hi : Nat} {w w' : World} (h : Mod lo hi w w') (n : Nat) : Mod lo hi w (w'.drewN n) := h.trans ⟨rfl, rfl, rfl, Nat.le_refl _, fun _ _ _ => rfl⟩
theorem Mod.drew {lo hi : Nat} {w w' : World} (h : Mod lo hi w w') : Mod lo hi w w'.drew := h.trans ⟨rfl, rfl, rfl, Nat.le_refl _, fun _ _ _ => rfl⟩
theorem below_drewN {b : Nat} {w w' : World} (h : Below b w w') (n : Nat) : Below b w (w'.drewN n) := h.trans ⟨rfl, rfl, rfl, Nat.le_refl _, fun _ _ => rfl⟩
/-- What was written is younger than B: below B nothing has turned. -/
theorem below_mod {B lo hi : Nat} {w w1 w2 : World} (h : Below B w w1) (k : Mod lo hi w1 w2) (h1 : B ≤ lo) (h2 : B ≤ w1.heap.size) : Below B w w2 :=
  h.trans ⟨k.os, k.tape, k.output, k.size, fun i hi => k.block i (by omega) (by omega)⟩
theorem below_step {w w1 w2 : World} (h : Below w.heap.size w w1) (k : Below w1.heap.size w1 w2) : Below w.heap.size w w2 := h.trans (k.mono h.size)

/-- The slice at A holds the cells vs, in a block from lo to hi. -/
def Row (lo hi : Nat) (w : World) (A : Option Addr) (vs : List Value) : Prop :=
  vs ≠ [] → ∃ b o, A = some ⟨b, o, none⟩ ∧ (lo ≤ b ∧ b < hi ∧ hi ≤ w.heap.size) ∧ ∀ j v, vs[j]? = some v → w.cell? ⟨b, o + j, none⟩ = some v
/-- Every place of the slice may be written. -/
def Free (w : World) (A : Option Addr) (n : Nat) : Prop := 0 < n → ∀ b o, A = some ⟨b, o, none⟩ → ∀ j, j < n → w.frozen? ⟨b, o + j, none⟩ = false

theorem Row.keep {lo hi lo' hi' : Nat} {w w' : World} {A : Option Addr} {vs : List Value} (h : Row lo hi w A vs) (hm : Mod lo' hi' w w') (hd : hi ≤ lo' ∨ hi' ≤ lo) : Row lo hi w' A vs := fun hn => by
  obtain ⟨b, o, rfl, ⟨h1, h2, h3⟩, hc⟩ := h hn
  exact ⟨b, o, rfl, ⟨h1, h2, Nat.le_trans h3 hm.size⟩, fun j v hj => by rw [World.cell?_of_block (w := w) (hm.block b (by omega) (by omega))]; exact hc j v hj⟩
theorem Row.below {lo hi : Nat} {w w' : World} {A : Option Addr} {vs : List Value} (h : Row lo hi w A vs) (hb : Below w.heap.size w w') : Row lo hi w' A vs := h.keep (Mod.of_below (lo := hi) (hi := hi) hb) (Or.inl (Nat.le_refl _))
theorem Row.wider {lo hi lo' hi' : Nat} {w : World} {A : Option Addr} {vs : List Value} (h : Row lo hi w A vs) (h1 : lo' ≤ lo) (h2 : hi ≤ hi') (h3 : hi' ≤ w.heap.size) : Row lo' hi' w A vs := fun hn => by
  obtain ⟨b, o, rfl, h4, hc⟩ := h hn
  exact ⟨b, o, rfl, ⟨by omega, by omega, h3⟩, hc⟩
theorem Row.at_ {lo hi : Nat} {w : World} {A : Option Addr} {vs : List Value} (h : Row lo hi w A vs) {k : Nat} (hk : k < vs.length) : ∃ b o, A = some ⟨b, o, none⟩ ∧ (lo ≤ b ∧ b < hi ∧ hi ≤ w.heap.size) ∧ w.cell? ⟨b, o + k, none⟩ = some vs[k] := by
  obtain ⟨b, o, rfl, hlt, hc⟩ := h (fun e => by rw [e] at hk; simp at hk)
  exact ⟨b, o, rfl, hlt, hc k _ (List.getElem?_eq_getElem hk)⟩
theorem row_nil (lo hi : Nat) (w : World) (A : Option Addr) : Row lo hi w A [] := fun h => absurd rfl h

theorem Free.keep {lo hi lo' hi' : Nat} {w w' : World} {A : Option Addr} {vs : List Value} {n : Nat} (h : Free w A n) (hr : Row lo hi w A vs) (hlen : n ≤ vs.length) (hm : Mod lo' hi' w w') (hd : hi ≤ lo' ∨ hi' ≤ lo) : Free w' A n := fun hn b o e j hj => by
  obtain ⟨b', o', e', ⟨h1, h2, h3⟩, _⟩ := hr (fun e => by rw [e] at hlen; simp at hlen; omega)
  rw [e'] at e
  injection e with e; injection e with e1 e2; subst e1; subst e2
  have hf := h hn _ _ e' j hj
  rw [World.frozen?_of_block (w := w) (hm.block b' (by omega) (by omega))]
  exact hf
theorem Free.below {lo hi : Nat} {w w' : World} {A : Option Addr} {vs : List Value} {n : Nat} (h : Free w A n) (hr : Row lo hi w A vs) (hlen : n ≤ vs.length) (hb : Below w.heap.size w w') : Free w' A n := h.keep hr hlen (Mod.of_below (lo := hi) (hi := hi) hb) (Or.inl (Nat.le_refl _))
theorem free_zero (w : World) (A : Option Addr) : Free w A 0 := fun h => absurd h (Nat.lt_irrefl 0)

/-- A row that the call owns. -/
theorem of_own {w : World} {base sz n : Nat} {e : TypeId} {v : Value} {vs : List Value} (h : w.ownsRow base e sz v n vs) :
    ∃ A cap, v = .slice A n cap ∧ Row base w.heap.size w A vs ∧ Free w A vs.length ∧ n ≤ cap ∧ (∀ a, A = some a → base ≤ a.block) := by
  obtain ⟨hlen, h⟩ := h
  rcases h with ⟨rfl, h0⟩ | ⟨g, cap, cur, rfl, hg, hh, hnc, _, hcs, hcur⟩
  · subst h0
    have h0' : vs = [] := List.eq_nil_of_length_eq_zero (by simpa using hlen)
    subst h0'
    exact ⟨none, 0, rfl, row_nil _ _ _ _, free_zero _ _, Nat.le_refl _, (fun a e => by cases e)⟩
  · have hgl : g < w.heap.size := (Array.getElem?_eq_some_iff.1 hh).1
    refine ⟨_, _, rfl, fun _ => ⟨g, 0, rfl, ⟨hg, hgl, Nat.le_refl _⟩, fun j x hj => ?_⟩, fun _ b o e j hj => ?_, hnc, fun a e => ?_⟩
    · rw [Nat.zero_add, cell_of_row w g j cur e (0, 0) hh]
      rw [← hcur, List.getElem?_take] at hj
      split at hj
      · simpa using hj
      · cases hj
    · injection e with e; injection e with e1 e2; subst e1; subst e2
      unfold World.frozen?
      rw [hh]
      simp
    · injection e with e; subst e; exact hg

/-- The rest of a row. -/
theorem Row.drop {lo hi : Nat} {w : World} {b o : Nat} {vs : List Value} (h : Row lo hi w (some ⟨b, o, none⟩) vs) (i : Nat) : Row lo hi w (some ⟨b, o + i, none⟩) (vs.drop i) := fun hn => by
  obtain ⟨b', o', e, h1, hc⟩ := h (fun e => by rw [e] at hn; simp at hn)
  injection e with e; injection e with e1 e2; subst e1; subst e2
  refine ⟨b, o + i, rfl, h1, fun j v hj => ?_⟩
  rw [List.getElem?_drop] at hj
  have := hc (i + j) v hj
  rwa [show o + i + j = o + (i + j) by omega]

/-- A store into a place of the row. -/
theorem Row.store {lo hi : Nat} {w : World} {b o : Nat} {vs : List Value} (h : Row lo hi w (some ⟨b, o, none⟩) vs) {k : Nat} (hk : k < vs.length) (v : Value) : Row lo hi (w.setCell ⟨b, o + k, none⟩ v) (some ⟨b, o, none⟩) (vs.set k v) := fun _ => by
  obtain ⟨b', o', e, h1, hc⟩ := h (fun e => by rw [e] at hk; simp at hk)
  injection e with e; injection e with e1 e2; subst e1; subst e2
  refine ⟨b, o, rfl, by simpa using h1, fun j x hj => ?_⟩
  by_cases e : j = k
  · subst e
    rw [List.getElem?_set_self hk] at hj
    injection hj with hj; subst hj
    exact World.cell?_setCell_same _ _ _ (hc j _ (List.getElem?_eq_getElem hk))
  · rw [List.getElem?_set_ne (by omega)] at hj
    rw [World.cell?_setCell_other _ _ _ _ (by intro h; simp only [Addr.mk.injEq] at h; omega)]
    exact hc j x hj
theorem Free.set {w : World} {A : Option Addr} {n : Nat} (h : Free w A n) (p : Addr) (v : Value) : Free (w.setCell p v) A n := fun hn b o e j hj => by
  rw [World.frozen?_setCell]
  exact h hn b o e j hj
/-- A cell of a block outside the stretch. -/
theorem Mod.cell {lo hi : Nat} {w w' : World} (h : Mod lo hi w w') {b o : Nat} {v : Value} (hv : w.cell? ⟨b, o, none⟩ = some v) (hd : b < lo ∨ hi ≤ b) : w'.cell? ⟨b, o, none⟩ = some v := by
  rw [World.cell?_of_block (w := w) (h.block b (World.block_lt_of_cell? w _ hv) hd)]; exact hv

/-- Block b is a variable of the call: it holds these cells. -/
def Lvar (w : World) (b : Nat) (cs : Array Value) : Prop := ∃ T, w.heap[b]? = some (.cells cs T (0, 0))
theorem Lvar.new (w : World) (cs : Array Value) (T : TypeId) : Lvar (w.alloc (.cells cs T)) w.heap.size cs := ⟨T, heap_alloc_new _ _⟩
theorem Lvar.lt {w : World} {b : Nat} {cs : Array Value} (h : Lvar w b cs) : b < w.heap.size := by
  obtain ⟨T, h⟩ := h
  exact (Array.getElem?_eq_some_iff.1 h).1
theorem Lvar.below {w w' : World} {b : Nat} {cs : Array Value} (h : Lvar w b cs) (hb : Below w.heap.size w w') : Lvar w' b cs := by
  have hl := h.lt
  obtain ⟨T, h⟩ := h
  exact ⟨T, by rw [hb.block b hl]; exact h⟩
theorem Lvar.alloc {w : World} {b : Nat} {cs : Array Value} (h : Lvar w b cs) (o : Obj) : Lvar (w.alloc o) b cs := h.below ((Below.refl _ _).alloc (Nat.le_refl _) o)
theorem Lvar.keep {w w' : World} {b lo hi : Nat} {cs : Array Value} (h : Lvar w b cs) (hm : Mod lo hi w w') (hd : b < lo ∨ hi ≤ b) : Lvar w' b cs := by
  have hl := h.lt
  obtain ⟨T, h⟩ := h
  exact ⟨T, by rw [hm.block b hl hd]; exact h⟩
theorem Lvar.other {w : World} {b : Nat} {cs : Array Value} (h : Lvar w b cs) {p : Addr} (hp : b ≠ p.block) (v : Value) : Lvar (w.setCell p v) b cs := by
  obtain ⟨T, h⟩ := h
  exact ⟨T, by rw [Below.heap_setCell _ _ _ _ hp]; exact h⟩
theorem Lvar.set {w : World} {b : Nat} {cs : Array Value} (h : Lvar w b cs) (j : Nat) (v : Value) : Lvar (w.setCell ⟨b, j, none⟩ v) b (cs.setIfInBounds j v) := by
  obtain ⟨T, h⟩ := h
  refine ⟨T, ?_⟩
  simp only [World.setCell, Array.getElem?_modify, if_true, h, Option.map_some]
  simp
theorem Lvar.cell {w : World} {b : Nat} {cs : Array Value} (h : Lvar w b cs) (j : Nat) (v : Value) (hj : cs[j]? = some v) : w.cell? ⟨b, j, none⟩ = some v := by
  obtain ⟨T, h⟩ := h
  rw [cell_of_row w b j cs T (0, 0) h, hj]
theorem Lvar.frozen {w : World} {b : Nat} {cs : Array Value} (h : Lvar w b cs) (j : Nat) : w.frozen? ⟨b, j, none⟩ = false := by
  obtain ⟨T, h⟩ := h
  unfold World.frozen?
  rw [h]
  simp

/-- A variable's block as a row. -/
theorem Lvar.row {w : World} {b : Nat} {cs : Array Value} (h : Lvar w b cs) : Row b (b + 1) w (some ⟨b, 0, none⟩) cs.toList ∧ Free w (some ⟨b, 0, none⟩) cs.size :=
  ⟨fun _ => ⟨b, 0, rfl, ⟨Nat.le_refl _, Nat.lt_succ_self _, h.lt⟩, fun j v hj => by rw [Nat.zero_add]; exact h.cell j v (by simpa using hj)⟩,
   fun _ b' o e j _ => by
    injection e with e; injection e with e1 e2; subst e1; subst e2
    rw [Nat.zero_add]
    exact h.frozen j⟩
end RowK
end Go.Proofs.YtaepfdgfjcdidaaGreatDoor
/-
  An append of a whole slice to a row of the call's own, whatever the slice (nil and empty too).
-/
namespace Go.Proofs.YtaepfdgfjcdidaaGreatDoor
open Go.RowKit
namespace RowK

theorem run_append_none {P : Program} {w : World} {base n size : Nat} (t ty e : TypeId) (i : TypeInfo) (ht : P.underlying t = some (.slice e)) (hi : P.info? e = some i) (c : Nat)
    {v : Value} {xs : List Value} (hown : w.ownsRow base e size v n xs) : (Builtin.append_ #[t, t] ty #[v, .slice none 0 c]).run P w = .ok v w := by
  rcases hown.2 with ⟨rfl, rfl⟩ | ⟨g, cap, cur, rfl, _, _, hnc, _⟩
  · simp [Builtin.append_, run_underlying ht, sizeOf, typeInfo, hi, Builtin.lenOf, Builtin.firstCells]
  · simp [Builtin.append_, run_underlying ht, sizeOf, typeInfo, hi, Builtin.lenOf, Builtin.firstCells, hnc, storeCells]

theorem run_append_row {P : Program} {w : World} {lo hi : Nat} (t ty e : TypeId) (i : TypeInfo) (z : Value) (size bytes base : Nat) (ht : P.underlying t = some (.slice e)) (hi0 : P.info? e = some i) (hz : i.zero = some z)
    (hsize : i.size = size) (hby : i.bytes = bytes) (hzs : z.cells.size = size) (hsz : 0 < size) (v : Value) (n : Nat) (xs : List Value) (hown : w.ownsRow base e size v n xs)
    (A : Option Addr) (m c : Nat) (news : List Value) (hl : news.length = m * size) (hsrc : Row lo hi w A news) (h1 : ∀ u ∈ news, u.oneCell' = true)
    (h63 : n + m ≤ maxLen) (hbytes : (n + m) * bytes ≤ 140737488355328) (hbase : base ≤ w.heap.size) :
    ∃ v' w', (Builtin.append_ #[t, t] ty #[v, .slice A m c]).run P w = .ok v' w' ∧ w'.ownsRow base e size v' (n + m) (xs ++ news) ∧ w.grownBy w' v.ownBlock := by
  cases A with
  | none =>
    have hn : news = [] := by
      rcases Decidable.em (news = []) with h | h
      · exact h
      · obtain ⟨b, o, e, _⟩ := hsrc h; cases e
    subst hn
    have hm : m = 0 := by
      rcases Nat.eq_zero_or_pos m with h | h
      · exact h
      · have := Nat.mul_pos h hsz; simp at hl; omega
    subst hm
    exact ⟨v, w, run_append_none t ty e i ht hi0 c hown, by simpa using hown, ⟨rfl, rfl, rfl, Nat.le_refl _, fun _ _ _ => rfl⟩⟩
  | some ad =>
    obtain ⟨v', w', h2, h3, h4, _⟩ := run_append_own w base t ty e i z size bytes ht hi0 hz hsize hby hzs hsz v n xs hown ad m c news hl (fun j u hu => by
      obtain ⟨b, o, e, _, hc⟩ := hsrc (fun e => by rw [e] at hu; simp at hu)
      injection e with e; subst e
      rw [show (⟨b, o, none⟩ : Addr).add j = ⟨b, o + j, none⟩ by unfold Addr.add; split <;> simp_all]
      exact hc j u hu) h1 h63 hbytes hbase
    exact ⟨v', w', h2, h3, h4⟩

/-- .. as one step of a region that draws. -/
theorem step_append_row {P : Program} {ops : Array Oper} {w : World} {E : Prop} {o : Oper} {a : Act} {K : Act → World → Prop} {Q : Exit → Act → World → Prop} (hgd : o.guard = none) (s x : Operand) (t : TypeId)
    (ho : o.op = .call { callee := .builtin .append, args := #[s, x], argTypes := #[t, t] }) {lo hi : Nat}
    (e : TypeId) (i : TypeInfo) (z : Value) (size bytes base : Nat) (ht : P.underlying t = some (.slice e)) (hi0 : P.info? e = some i) (hz : i.zero = some z)
    (hsize : i.size = size) (hby : i.bytes = bytes) (hzs : z.cells.size = size) (hsz : 0 < size) (v : Value) (n : Nat) (xs : List Value) (hs : a.eval s = v) (hown : w.ownsRow base e size v n xs)
    (A : Option Addr) (m c : Nat) (news : List Value) (hx : a.eval x = .slice A m c) (hl : news.length = m * size) (hsrc : Row lo hi w A news) (h1 : ∀ u ∈ news, u.oneCell' = true)
    (h63 : n + m ≤ maxLen) (hbytes : (n + m) * bytes ≤ 140737488355328) (hbase : base ≤ w.heap.size)
    (h : ∀ v' w', w'.ownsRow base e size v' (n + m) (xs ++ news) → w.grownBy w' v.ownBlock → K (a.put o.dst v') w') :
    if Region.wanted o (yielded ops a.tmps) = true then Oper.wp P o a w K Q else E := by
  have hw : Region.wanted o (yielded ops a.tmps) = true := by simp [Region.wanted, hgd]
  rw [if_pos hw]
  obtain ⟨v', w', hr, h2, h3⟩ := run_append_row (P := P) t o.type e i z size bytes base ht hi0 hz hsize hby hzs hsz v n xs hown A m c news hl hsrc h1 h63 hbytes hbase
  unfold Oper.wp execOp
  simp only [ho, resolve, invoke, builtin, Sem.run_bind, Sem.run_pure, Result.andThen_ok, List.map_toArray, List.map_cons, List.map_nil, hs, hx, hr]
  exact h v' w' h2 h3
end RowK
end Go.Proofs.YtaepfdgfjcdidaaGreatDoor
/-
  An append to a row of the call's own: the new row lies in the old block, or in a new one.
-/
namespace Go.Proofs.YtaepfdgfjcdidaaGreatDoor
open Go.RowKit
namespace RowK

theorem run_append_where {P : Program} {w : World} (t ty e : TypeId) (i : TypeInfo) (z : Value) (size bytes base : Nat) (ht : P.underlying t = some (.slice e)) (hi0 : P.info? e = some i) (hz : i.zero = some z)
    (hsize : i.size = size) (hby : i.bytes = bytes) (hzs : z.cells.size = size) (hsz : 0 < size) (v : Value) (n : Nat) (xs : List Value) (hown : w.ownsRow base e size v n xs)
    (ad : Addr) (m c : Nat) (news : List Value) (hl : news.length = m * size) (hnews : ∀ j u, news[j]? = some u → w.cell? (ad.add j) = some u) (h1 : ∀ u ∈ news, u.oneCell' = true)
    (h63 : n + m ≤ maxLen) (hbytes : (n + m) * bytes ≤ 140737488355328) (hbase : base ≤ w.heap.size) :
    ∃ v' w', (Builtin.append_ #[t, t] ty #[v, .slice (some ad) m c]).run P w = .ok v' w' ∧ w'.ownsRow base e size v' (n + m) (xs ++ news) ∧ w.grownBy w' v.ownBlock ∧ (v'.ownBlock = v.ownBlock ∨ ∀ g, v'.ownBlock = some g → w.heap.size ≤ g) := by
  obtain ⟨v', w', hr, h2, h3, _⟩ := run_append_own (P := P) w base t ty e i z size bytes ht hi0 hz hsize hby hzs hsz v n xs hown ad m c news hl hnews h1 h63 hbytes hbase
  refine ⟨v', w', hr, h2, h3, ?_⟩
  have hlen := hown.1
  rcases hown.2 with ⟨rfl, rfl⟩ | ⟨g, cap, cur, rfl, hb, hg, hn, hm, hs, htake⟩
  · obtain ⟨v2, w2, hr2, k2, _⟩ := run_append_own (P := P) w w.heap.size t ty e i z size bytes ht hi0 hz hsize hby hzs hsz (.slice none 0 0) 0 [] (World.ownsRow_nil w _ e size) ad m c news hl hnews h1 h63 hbytes (Nat.le_refl _)
    rw [hr] at hr2
    injection hr2 with e1 e2
    subst e1; subst e2
    exact Or.inr fun g hg => (k2.lt g hg).1
  · by_cases hroom : n + m ≤ cap
    · left
      have hrun := run_append_room_cells (P := P) w t ty e i ht hi0 g 0 n cap ad m c news (by rw [hsize]; exact hl) hnews h1 hroom (fun j hj => by
        rw [Nat.zero_add, cell_of_row w g _ cur e (0, 0) hg]
        have : n * i.size + j < cur.size := by
          rw [hs, hsize]
          have h5 : (n + m) * size ≤ cap * size := Nat.mul_le_mul_right _ hroom
          rw [Nat.add_mul] at h5
          omega
        simp [this]) (fun j hj => by
        unfold World.frozen?
        rw [hg]
        simp)
      rw [hr] at hrun
      injection hrun with e1 _
      rw [e1]
      rfl
    · right
      obtain ⟨v2, w2, hr2, k2, _⟩ := run_append_arg_grows (P := P) w t ty e i z size bytes ht hi0 hz hsize hby hzs hsz ⟨g, 0, none⟩ n cap xs (by rw [hlen]) (fun j u hu => by
        rw [show (⟨g, 0, none⟩ : Addr).add j = ⟨g, j, none⟩ by unfold Addr.add; split <;> simp_all]
        have hjl := (List.getElem?_eq_some_iff.1 hu).1
        rw [hown.cellAt j (by omega)]
        exact hu) ad m c news hl hnews (by omega) h63 hbytes
      rw [hr] at hr2
      injection hr2 with e1 e2
      subst e1; subst e2
      exact fun g hg => (k2.lt g hg).1

/-- .. as one step of a region that draws. -/
theorem step_append_where {P : Program} {ops : Array Oper} {w : World} {E : Prop} {o : Oper} {a : Act} {K : Act → World → Prop} {Q : Exit → Act → World → Prop} (hgd : o.guard = none) (s x : Operand) (t : TypeId)
    (ho : o.op = .call { callee := .builtin .append, args := #[s, x], argTypes := #[t, t] })
    (e : TypeId) (i : TypeInfo) (z : Value) (size bytes base : Nat) (ht : P.underlying t = some (.slice e)) (hi0 : P.info? e = some i) (hz : i.zero = some z)
    (hsize : i.size = size) (hby : i.bytes = bytes) (hzs : z.cells.size = size) (hsz : 0 < size) (v : Value) (n : Nat) (xs : List Value) (hs : a.eval s = v) (hown : w.ownsRow base e size v n xs)
    (ad : Addr) (m c : Nat) (news : List Value) (hx : a.eval x = .slice (some ad) m c) (hl : news.length = m * size) (hnews : ∀ j u, news[j]? = some u → w.cell? (ad.add j) = some u) (h1 : ∀ u ∈ news, u.oneCell' = true)
    (h63 : n + m ≤ maxLen) (hbytes : (n + m) * bytes ≤ 140737488355328) (hbase : base ≤ w.heap.size)
    (h : ∀ v' w', w'.ownsRow base e size v' (n + m) (xs ++ news) → w.grownBy w' v.ownBlock → (v'.ownBlock = v.ownBlock ∨ ∀ g, v'.ownBlock = some g → w.heap.size ≤ g) → K (a.put o.dst v') w') :
    if Region.wanted o (yielded ops a.tmps) = true then Oper.wp P o a w K Q else E := by
  have hw : Region.wanted o (yielded ops a.tmps) = true := by simp [Region.wanted, hgd]
  rw [if_pos hw]
  obtain ⟨v', w', hr, h2, h3, h4⟩ := run_append_where (P := P) t o.type e i z size bytes base ht hi0 hz hsize hby hzs hsz v n xs hown ad m c news hl hnews h1 h63 hbytes hbase
  unfold Oper.wp execOp
  simp only [ho, resolve, invoke, builtin, Sem.run_bind, Sem.run_pure, Result.andThen_ok, List.map_toArray, List.map_cons, List.map_nil, hs, hx, hr]
  exact h v' w' h2 h3 h4
end RowK
end Go.Proofs.YtaepfdgfjcdidaaGreatDoor
