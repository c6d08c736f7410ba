import Derived.Test.YtaepfdgfjcdidaaGreatDoorListed
import Derived.Test.YtaepfdgfjcdidaaGreatDoorRepOwn
/-
  Slices of any data: their marks, the cells that make lays, what a law is given.
-/
namespace Go.Proofs.YtaepfdgfjcdidaaGreatDoor
open Go.RowKit
namespace Mem
open RowK
section
variable {α : Type} {mk : Nat → α → α} {sz : α → Nat}
/-- The marked data, numbered from k on. -/
def mks (mk : Nat → α → α) (sz : α → Nat) : Nat → List α → List α
  | _, [] => []
  | k, x :: xs => mk k x :: mks mk sz (k + sz x) xs
def szs (sz : α → Nat) (xs : List α) : Nat := (xs.map sz).sum
theorem szs_nil : szs sz [] = 0 := rfl
theorem szs_cons (x : α) (xs : List α) : szs sz (x :: xs) = sz x + szs sz xs := by simp [szs]
theorem szs_append (a b : List α) : szs sz (a ++ b) = szs sz a + szs sz b := by simp [szs]
theorem szs_snoc (a : List α) (x : α) : szs sz (a ++ [x]) = szs sz a + sz x := by simp [szs]
theorem szs_take (xs : List α) (k : Nat) : szs sz (xs.take k) ≤ szs sz xs := by
  have h : szs sz xs = szs sz (xs.take k) + szs sz (xs.drop k) := by rw [← szs_append, List.take_append_drop]
  omega
theorem szs_mem : ∀ {xs : List α} {x : α}, x ∈ xs → sz x ≤ szs sz xs
  | y :: ys, x, h => by
    rw [szs_cons]
    rcases List.mem_cons.1 h with rfl | h
    · omega
    · have := szs_mem h
      omega
theorem szs_le {f g : α → Nat} (h : ∀ x, f x ≤ g x) : ∀ xs : List α, szs f xs ≤ szs g xs
  | [] => Nat.le_refl _
  | x :: xs => by
    rw [szs_cons, szs_cons]
    have := szs_le h xs
    have := h x
    omega
theorem take_snoc {xs : List α} {k : Nat} (h : k < xs.length) : xs.take (k + 1) = xs.take k ++ [xs[k]] := by rw [List.take_add_one, List.getElem?_eq_getElem h]; rfl
theorem szs_step {xs : List α} {k : Nat} (h : k < xs.length) : szs sz (xs.take (k + 1)) = szs sz (xs.take k) + sz xs[k] := by rw [take_snoc h, szs_snoc]
theorem mks_len : ∀ (xs : List α) (k : Nat), (mks mk sz k xs).length = xs.length
  | [], _ => rfl
  | x :: xs, k => by rw [mks, List.length_cons, mks_len xs, List.length_cons]
theorem mks_append : ∀ (a b : List α) (k : Nat), mks mk sz k (a ++ b) = mks mk sz k a ++ mks mk sz (k + szs sz a) b
  | [], b, k => by simp [mks, szs]
  | x :: a, b, k => by
    rw [List.cons_append, mks, mks, mks_append a b, List.cons_append, szs_cons, Nat.add_assoc]
theorem mks_snoc (a : List α) (x : α) (k : Nat) : mks mk sz k (a ++ [x]) = mks mk sz k a ++ [mk (k + szs sz a) x] := by
  rw [mks_append]; rfl
theorem mks_at (k : Nat) (xs : List α) {j : Nat} (hj : j < xs.length) (h : j < (mks mk sz k xs).length) : (mks mk sz k xs)[j] = mk (k + szs sz (xs.take j)) xs[j] := by
  have e : mks mk sz k xs = mks mk sz k (xs.take j) ++ mks mk sz (k + szs sz (xs.take j)) (xs.drop j) := by rw [← mks_append, List.take_append_drop]
  have hl : (mks mk sz k (xs.take j)).length = j := by rw [mks_len, List.length_take]; omega
  have h2 : (mks mk sz k xs)[j]? = some (mk (k + szs sz (xs.take j)) xs[j]) := by
    rw [e, List.getElem?_append_right (by omega), hl, Nat.sub_self, List.drop_eq_getElem_cons hj]
    rfl
  rw [List.getElem?_eq_getElem h] at h2
  exact Option.some.inj h2

/-- The first ones are numbered, the others still as they were. -/
def Marking (r : Rep α) (mk : Nat → α → α) (sz : α → Nat) (fp : List Nat) (w : World) (xs : List α) (A : Option Addr) (k0 : Nat) (x i : Value) (wr : World) : Prop :=
  ∃ (k l b o : Nat) (done rest : List (El α)), k ≤ xs.length ∧ i = .int .i64 k ∧ x = .int .i64 l ∧ l = k0 + szs sz (xs.take k) ∧ A = some ⟨b, o, none⟩ ∧ b < wr.heap.size ∧ done.length = k ∧
    Row b (b + 1) wr A (cells (done ++ rest)) ∧ Free wr A (xs.length * r.n) ∧ (∀ e ∈ done ++ rest, r.rep true wr e.1 e.2.1 e.2.2) ∧ fp = b :: fps (done ++ rest) ∧ fp.Nodup ∧ vals done = mks mk sz k0 (xs.take k) ∧ vals rest = xs.drop k ∧ ModF fp w wr
theorem fps_apart {a b : List (El α)} {e : El α} {B : Nat} (h : (B :: fps (a ++ e :: b)).Nodup) : (∀ x ∈ a ++ b, ∀ i ∈ x.1, i ∉ e.1 ∧ i ≠ B) ∧ (∀ i ∈ e.1, i ≠ B) ∧ e.1.Nodup := by
  obtain ⟨h1, h2⟩ := List.nodup_cons.1 h
  have hf : fps (a ++ e :: b) = fps a ++ (e.1 ++ fps b) := by simp [fps]
  rw [hf] at h1 h2
  obtain ⟨h3, h4, h5⟩ := List.nodup_append.1 h2
  obtain ⟨h6, h7, h8⟩ := List.nodup_append.1 h4
  refine ⟨fun x hx i hi => ?_, fun i hi e => h1 (e ▸ List.mem_append_right _ (List.mem_append_left _ hi)), h6⟩
  rcases List.mem_append.1 hx with hx | hx
  · have := mem_fps hx hi
    exact ⟨fun h => h5 i this i (List.mem_append_left _ h) rfl, fun e => h1 (e ▸ List.mem_append_left _ this)⟩
  · have := mem_fps hx hi
    exact ⟨fun h => h8 i h i this rfl, fun e => h1 (e ▸ List.mem_append_right _ (List.mem_append_right _ this))⟩
theorem marking_zero {r : Rep α} {w : World} {fp : List Nat} {A : Option Addr} {c : Nat} {xs : List α} (k0 : Nat) (h : (Rep.slice r).rep true w fp [.slice A xs.length c] xs) (hn : fp.Nodup) (hne : xs ≠ []) : Marking r mk sz fp w xs A k0 (.int .i64 k0) (.int .i64 0) w := by
  obtain ⟨A', c', e, hc, ⟨rfl, rfl⟩ | ⟨b, o, es, rfl, rfl, hne, rfl, hl, he, hr, hf⟩⟩ := h
  · exact absurd rfl hne
  · injection e with e _
    injection e with e1 e2 e3
    subst e1
    refine ⟨0, k0, b, o, [], es, Nat.zero_le _, rfl, rfl, by simp [szs], rfl, hl, rfl, hr, ?_, he, rfl, hn, rfl, rfl, ModF.refl _ _⟩
    rw [vals_len, ← cells_len (n := r.n) (fun e h => r.len (he e h))]
    exact hf rfl
theorem marking_end {r : Rep α} {fp : List Nat} {w wr : World} {xs : List α} {A : Option Addr} {k0 c : Nat} {x : Value} (hc : xs.length ≤ c) (hne : xs ≠ []) (h : Marking r mk sz fp w xs A k0 x (.int .i64 (xs.length : Int)) wr) :
    (Rep.slice r).rep true wr fp [.slice A xs.length c] (mks mk sz k0 xs) ∧ ModF fp w wr ∧ x = .int .i64 ((k0 : Int) + szs sz xs) := by
  obtain ⟨k', l', b, o, done, rest, hkl, e1, rfl, hsum, rfl, hb, hdl, hr, hf, he, rfl, hn, hv1, hv2, hm⟩ := h
  injection e1 with _ e1
  obtain rfl : xs.length = k' := by omega
  rw [List.take_length] at hsum hv1
  rw [List.drop_length] at hv2
  obtain rfl : rest = [] := by simpa [vals] using hv2
  rw [List.append_nil] at *
  have hd : done ≠ [] := fun e => hne (List.eq_nil_of_length_eq_zero (by rw [← hdl, e]; rfl))
  refine ⟨⟨_, c, by rw [mks_len], by rw [mks_len]; exact hc, Or.inr ⟨b, o, done, rfl, hv1.symm, hd, rfl, hb, he, hr, fun _ => ?_⟩⟩, hm, congrArg (Value.int .i64) (by omega)⟩
  rw [cells_len (n := r.n) (fun e h => r.len (he e h)), hdl]
  exact hf
theorem cells_swap {n : Nat} {done rest : List (El α)} {e f : El α} (hd : ∀ x ∈ done, x.2.1.length = n) (he : e.2.1.length = n) (hf : f.2.1.length = n) {j : Nat} (hj : j < done.length * n ∨ done.length * n + n ≤ j) :
    (cells (done ++ f :: rest))[j]? = (cells (done ++ e :: rest))[j]? := by
  have hl := cells_len hd
  have h1 : ∀ g : El α, cells (done ++ g :: rest) = cells done ++ (g.2.1 ++ cells rest) := fun g => by simp [cells]
  rw [h1, h1]
  rcases hj with hj | hj
  · rw [List.getElem?_append_left (by omega), List.getElem?_append_left (by omega)]
  · rw [List.getElem?_append_right (by omega), List.getElem?_append_right (by omega), List.getElem?_append_right (by omega), List.getElem?_append_right (by omega), he, hf]
/-- What the round at k needs, and what it leaves. -/
theorem marking_at {r : Rep α} {fp : List Nat} {w wr : World} {xs : List α} {A : Option Addr} {k0 k l : Nat} (h : Marking r mk sz fp w xs A k0 (.int .i64 l) (.int .i64 k) wr) (hk : k < xs.length) :
    ∃ b o f cs, A = some ⟨b, o, none⟩ ∧ b < wr.heap.size ∧ r.rep true wr f cs xs[k] ∧ f.Nodup ∧ b ∉ f ∧ (∀ i, i < r.n → wr.cell? ⟨b, o + k * r.n + i, none⟩ = cs[i]?) ∧ (∀ i, i < r.n → wr.frozen? ⟨b, o + k * r.n + i, none⟩ = false) ∧
      ∀ w2 cs', r.rep true w2 f cs' (mk l xs[k]) → ModF (b :: f) wr w2 → (∀ j, (j < k * r.n ∨ k * r.n + r.n ≤ j) → w2.cell? ⟨b, o + j, none⟩ = wr.cell? ⟨b, o + j, none⟩) → (∀ i, i < r.n → w2.cell? ⟨b, o + k * r.n + i, none⟩ = cs'[i]?) →
        (∀ j, w2.frozen? ⟨b, o + j, none⟩ = wr.frozen? ⟨b, o + j, none⟩) → Marking r mk sz fp w xs A k0 (.int .i64 ((l + sz xs[k] : Nat) : Int)) (.int .i64 ((k + 1 : Nat) : Int)) w2 := by
  obtain ⟨k', l', b, o, done, rest, hkl, e1, e2, hsum, rfl, hb, hdl, hr, hf, he, rfl, hn, hv1, hv2, hm⟩ := h
  injection e1 with _ e1
  injection e2 with _ e2
  obtain rfl : k = k' := by omega
  obtain rfl : l = l' := by omega
  clear e1 e2
  obtain ⟨e, rest, rfl⟩ : ∃ e r, rest = e :: r := by
    cases rest with
    | nil => rw [List.drop_eq_getElem_cons hk] at hv2; cases hv2
    | cons e r => exact ⟨e, r, rfl⟩
  rw [List.drop_eq_getElem_cons hk] at hv2
  obtain ⟨hx, hv3⟩ : e.2.2 = xs[k] ∧ vals rest = xs.drop (k + 1) := by
    unfold vals at hv2 ⊢
    rw [List.map_cons] at hv2
    injection hv2 with a b
    exact ⟨a, b⟩
  have hem : e ∈ done ++ e :: rest := List.mem_append_right _ List.mem_cons_self
  have hre := he e hem
  obtain ⟨hd1, hd2, hd3⟩ := fps_apart hn
  have hlen := fun e h => r.len (he e h)
  have hlenS := cells_len (n := r.n) hlen
  have hxl : (done ++ e :: rest).length = xs.length := by
    have h1 := congrArg List.length hv1
    have h2 := congrArg List.length hv3
    rw [vals_len, mks_len, List.length_take] at h1
    rw [vals_len, List.length_drop] at h2
    simp
    omega
  have hat : (done ++ e :: rest)[k]'(by omega) = e := by
    rw [List.getElem_append_right (by omega)]
    simp [hdl]
  have hlt : ∀ i, i < r.n → k * r.n + i < (cells (done ++ e :: rest)).length := fun i hi => by
    rw [hlenS, hxl]
    have := Nat.mul_le_mul_right r.n (Nat.succ_le_of_lt hk)
    rw [Nat.succ_mul] at this
    omega
  rw [← hx]
  refine ⟨b, o, e.1, e.2.1, rfl, hb, hre, hd3, fun h => hd2 b h rfl, fun i hi => ?_, fun i hi => ?_, fun w2 cs' hr2 hm2 hc2 hi2 hf2 => ?_⟩
  · obtain ⟨b', o', e', _, h2⟩ := hr (fun e => by have := hlt i hi; rw [e] at this; simp at this)
    injection e' with e'; injection e' with e1 e2; subst e1; subst e2
    have g0 := h2 (k * r.n + i) _ (List.getElem?_eq_getElem (hlt i hi))
    rw [Nat.add_assoc, g0, ← List.getElem?_eq_getElem (hlt i hi), cells_at hlen (k := k) (by omega) hi, hat]
  · have := hlt i hi
    rw [hlenS, hxl] at this
    rw [Nat.add_assoc]
    exact hf (by omega) b o rfl _ this
  · have hl2 : cs'.length = r.n := r.len hr2
    have hfps : fps ((done ++ [(e.1, cs', mk l e.2.2)]) ++ rest) = fps (done ++ e :: rest) := by simp [fps]
    have hnew : (done ++ [(e.1, cs', mk l e.2.2)]) ++ rest = done ++ (e.1, cs', mk l e.2.2) :: rest := by simp
    have hlend : ∀ x ∈ done, x.2.1.length = r.n := fun x h => hlen x (List.mem_append_left _ h)
    have hlen' : ∀ x ∈ done ++ (e.1, cs', mk l e.2.2) :: rest, x.2.1.length = r.n := fun x h => by
      rcases List.mem_append.1 h with h | h
      · exact hlend x h
      · rcases List.mem_cons.1 h with rfl | h
        · exact hl2
        · exact hlen x (List.mem_append_right _ (List.mem_cons_of_mem _ h))
    refine ⟨k + 1, l + sz e.2.2, b, o, done ++ [(e.1, cs', mk l e.2.2)], rest, hk, rfl, rfl, ?_, rfl, Nat.lt_of_lt_of_le hb hm2.size, by simp [hdl], ?_, ?_, ?_, by rw [hfps], hn, ?_, hv3, ?_⟩
    · rw [szs_step hk, ← hx, hsum]; omega
    · rw [hnew]
      intro _
      refine ⟨b, o, rfl, ⟨Nat.le_refl _, Nat.lt_succ_self _, Nat.lt_of_lt_of_le hb hm2.size⟩, fun j v hj => ?_⟩
      have hjl := (List.getElem?_eq_some_iff.1 hj).1
      by_cases hin : k * r.n ≤ j ∧ j < k * r.n + r.n
      · obtain ⟨i, rfl⟩ : ∃ i, j = k * r.n + i := ⟨j - k * r.n, by omega⟩
        have h3 := cells_at hlen' (k := k) (i := i) (by simp; omega) (by omega)
        rw [List.getElem_append_right (by omega)] at h3
        simp only [hdl, Nat.sub_self, List.getElem_cons_zero] at h3
        rw [← Nat.add_assoc, hi2 i (by omega), ← h3, hj]
      · rw [cells_swap (e := e) hlend (hlen e hem) hl2 (by rw [hdl]; omega)] at hj
        rw [hc2 j (by omega)]
        obtain ⟨b', o', e', _, h2⟩ := hr (fun e => by rw [e] at hj; simp at hj)
        injection e' with e'; injection e' with e1 e2; subst e1; subst e2
        exact h2 j v hj
    · intro hp b' o' e' j hj
      injection e' with e'; injection e' with e1 e2; subst e1; subst e2
      rw [hf2]
      exact hf hp _ _ rfl j hj
    · intro x hx'
      rw [hnew] at hx'
      have hkeep : ∀ x ∈ done ++ rest, r.rep true w2 x.1 x.2.1 x.2.2 := fun x hx' => by
        have hd := hd1 x hx'
        refine Rep.keepF (he x ?_) hm2 (fun i hi h => ?_)
        · rcases List.mem_append.1 hx' with h | h
          · exact List.mem_append_left _ h
          · exact List.mem_append_right _ (List.mem_cons_of_mem _ h)
        · rcases List.mem_cons.1 h with h | h
          · exact (hd i hi).2 h
          · exact (hd i hi).1 h
      rcases List.mem_append.1 hx' with h | h
      · exact hkeep x (List.mem_append_left _ h)
      · rcases List.mem_cons.1 h with rfl | h
        · exact hr2
        · exact hkeep x (List.mem_append_right _ h)
    · rw [take_snoc hk, mks_snoc, vals_append, hv1, ← hsum, ← hx]
      rfl
    · exact hm.trans (hm2.wider (fun i hi => by
        rcases List.mem_cons.1 hi with rfl | hi
        · exact List.mem_cons_self
        · exact List.mem_cons_of_mem _ (mem_fps hem hi)))
end
/-- The cells that make lays. -/
theorem made_gen {α : Type} (zs : List Value) (x : α) (hm : 0 < zs.length) (n : Nat) : (madeCells zs.toArray (n * zs.length)).toList = cells (List.replicate n (([] : List Nat), zs, x)) := by
  have hl : ∀ e ∈ List.replicate n (([] : List Nat), zs, x), e.2.1.length = zs.length := fun e he => by rw [(List.mem_replicate.1 he).2]
  have hcl := cells_len hl
  rw [List.length_replicate] at hcl
  refine List.ext_getElem (by simp [madeCells, hcl]) (fun j h1 h2 => ?_)
  have hj : j < n * zs.length := by rwa [hcl] at h2
  have hk : j / zs.length < n := (Nat.div_lt_iff_lt_mul hm).2 hj
  have hi : j % zs.length < zs.length := Nat.mod_lt _ hm
  have h3 := cells_at hl (k := j / zs.length) (i := j % zs.length) (by simpa using hk) hi
  rw [Nat.mul_comm, Nat.div_add_mod] at h3
  rw [List.getElem?_eq_getElem h2] at h3
  simp only [List.getElem_replicate] at h3
  rw [List.getElem?_eq_getElem hi] at h3
  rw [Option.some.inj h3]
  simp [madeCells, hi]

theorem New.keepG {α : Type} {r : Rep α} {w w1 w2 : World} {lo hi : Nat} {x : α} {cs : List Value} (h : New r w x w1 cs) (m : Mod lo hi w1 w2) (hd : hi ≤ w.heap.size) : New r w x w2 cs := by
  obtain ⟨fp, h1, h2, h3⟩ := h
  exact ⟨fp, Rep.keep h1 m (fun b hb => Or.inr (by have := h3 b hb; omega)), h2, h3⟩
theorem New.olderG {α : Type} {r : Rep α} {w w0 w1 : World} {x : α} {cs : List Value} (h : New r w x w1 cs) (hw : w0.heap.size ≤ w.heap.size) : New r w0 x w1 cs := by
  obtain ⟨fp, h1, h2, h3⟩ := h
  exact ⟨fp, h1, h2, fun b hb => Nat.le_trans hw (h3 b hb)⟩

/-- A slice in a stretch of blocks, and what an argument holds. -/
def OwnS {α : Type} (r : Rep α) (lo hi : Nat) (w : World) (A : Option Addr) (n c : Nat) (xs : List α) : Prop := hi ≤ w.heap.size ∧ ∃ fp, (Rep.slice r).rep true w fp [.slice A n c] xs ∧ fp.Nodup ∧ ∀ b ∈ fp, lo ≤ b ∧ b < hi
def ArgS {α : Type} (r : Rep α) (w : World) (A : Option Addr) (n c : Nat) (xs : List α) : Prop := ∃ q fp, (Rep.slice r).rep q w fp [.slice A n c] xs
section
variable {α : Type} {r : Rep α} {lo hi lo' hi' n c : Nat} {w w' : World} {A : Option Addr} {xs : List α}
theorem OwnS.below (h : OwnS r lo hi w A n c xs) (hb : Below w.heap.size w w') : OwnS r lo hi w' A n c xs := by
  obtain ⟨h0, fp, h1, h2, h3⟩ := h
  exact ⟨Nat.le_trans h0 hb.size, fp, Rep.below h1 hb, h2, h3⟩
theorem OwnS.keep (h : OwnS r lo hi w A n c xs) (m : Mod lo' hi' w w') (hd : hi ≤ lo' ∨ hi' ≤ lo) : OwnS r lo hi w' A n c xs := by
  obtain ⟨h0, fp, h1, h2, h3⟩ := h
  exact ⟨Nat.le_trans h0 m.size, fp, Rep.keep h1 m (fun b hb => by have := h3 b hb; omega), h2, h3⟩
theorem OwnS.wider (h : OwnS r lo hi w A n c xs) (h1 : lo' ≤ lo) (h2 : hi ≤ hi') (h3 : hi' ≤ w.heap.size) : OwnS r lo' hi' w A n c xs := by
  obtain ⟨_, fp, k1, k2, k3⟩ := h
  exact ⟨h3, fp, k1, k2, fun b hb => ⟨Nat.le_trans h1 (k3 b hb).1, Nat.lt_of_lt_of_le (k3 b hb).2 h2⟩⟩
theorem OwnS.arg (h : OwnS r lo hi w A n c xs) : ArgS r w A n c xs := by
  obtain ⟨_, fp, h1, _⟩ := h
  exact ⟨true, fp, h1⟩
theorem OwnS.cap (h : OwnS r lo hi w A n c xs) : xs.length = n ∧ xs.length ≤ c := by
  obtain ⟨_, fp, ⟨_, _, e, h, _⟩, _⟩ := h
  injection e with e _
  injection e with _ e1 e2
  omega
theorem ArgS.below (h : ArgS r w A n c xs) (hb : Below w.heap.size w w') : ArgS r w' A n c xs := by
  obtain ⟨q, fp, h1⟩ := h
  exact ⟨q, fp, Rep.below h1 hb⟩
theorem ArgS.cap (h : ArgS r w A n c xs) : xs.length = n ∧ xs.length ≤ c := by
  obtain ⟨q, fp, _, _, e, h, _⟩ := h
  injection e with e _
  injection e with _ e1 e2
  omega
theorem ArgS.nil (r : Rep α) (w : World) (A : Option Addr) (c : Nat) : ArgS r w A 0 c [] := ⟨true, [], A, c, rfl, Nat.zero_le _, Or.inl ⟨rfl, rfl⟩⟩
theorem OwnS.nil (r : Rep α) (w : World) (A : Option Addr) (c : Nat) (h : hi ≤ w.heap.size) : OwnS r lo hi w A 0 c [] := ⟨h, [], ⟨A, c, rfl, Nat.zero_le _, Or.inl ⟨rfl, rfl⟩⟩, List.nodup_nil, fun _ h => by cases h⟩
theorem OwnS.of_new {w0 : World} (h : New (Rep.slice r) w0 xs w [.slice A n c]) : OwnS r w0.heap.size w.heap.size w A n c xs := by
  obtain ⟨fp, h1, h2, h3⟩ := h
  exact ⟨Nat.le_refl _, fp, h1, h2, fun b hb => ⟨h3 b hb, (Rep.slice r).lt h1 b hb⟩⟩
theorem Owned.ownS {ok : Nat → Prop} {e : TypeId} {v : Value} (h : Owned r e ok w v xs) (hn : 0 < r.n) (hk : ∀ b, ok b → lo ≤ b) : ∃ A c, v = .slice A xs.length c ∧ OwnS r lo w.heap.size w A xs.length c xs := by
  obtain ⟨A, c, fp, rfl, h1, h2, h3⟩ := h.rep hn
  exact ⟨A, c, rfl, Nat.le_refl _, fp, h1, h2, fun b hb => ⟨hk b (h3 b hb), (Rep.slice r).lt h1 b hb⟩⟩
end
end Mem
end Go.Proofs.YtaepfdgfjcdidaaGreatDoor
