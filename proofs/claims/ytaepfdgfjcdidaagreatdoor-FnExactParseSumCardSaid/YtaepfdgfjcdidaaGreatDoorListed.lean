import Derived.Test.YtaepfdgfjcdidaaGreatDoorRepLin
import Derived.Test.YtaepfdgfjcdidaaGreatDoorRowss
import Derived.Test.YtaepfdgfjcdidaaGreatDoorStrRow
/-
  A slice that a call makes by append, whose elements may share memory with others: its own row is apart from its elements' blocks; the elements are only read.
-/
namespace Go.Proofs.YtaepfdgfjcdidaaGreatDoor
open Go.RowKit
namespace RowK
section
variable {P : Program} {w : World}
theorem wpList_append_where {ops : Array Oper} {rest : List Oper} {o : Oper} {a : Act} {Q : Exit → Act → World → Prop} (hgd : o.guard = none) (s x : Operand) (t : TypeId)
    (ho : o.op = .call { callee := .builtin .append, args := #[s, x], argTypes := #[t, t] })
    (base : Nat) (e : TypeId) (i : TypeInfo) (z : Value) (size bytes : Nat) (ht : P.underlying t = some (.slice e)) (hi : P.info? e = some i) (hz : i.zero = some z)
    (hsize : i.size = size) (hby : i.bytes = bytes) (hzs : z.cells.size = size) (hsz : 0 < size)
    (v : Value) (n : Nat) (xs : List Value) (hs : a.eval s = v) (hown : w.ownsRow base e size v n xs)
    (ad : Addr) (m c : Nat) (news : List Value) (hx : a.eval x = .slice (some ad) m c) (hl : news.length = m * size) (hnews : ∀ j u, news[j]? = some u → w.cell? (ad.add j) = some u) (h1 : ∀ u ∈ news, u.oneCell' = true)
    (h63 : n + m ≤ maxLen) (hbytes : (n + m) * bytes ≤ 140737488355328) (hbase : base ≤ w.heap.size)
    (h : ∀ v' w', w'.ownsRow base e size v' (n + m) (xs ++ news) → w.grownBy w' v.ownBlock → (v'.ownBlock = v.ownBlock ∨ ∀ g, v'.ownBlock = some g → w.heap.size ≤ g) → wpList P ops Q rest (a.put o.dst v') w') : wpList P ops Q (o :: rest) a w := by
  refine wpList_plain hgd fun K hK => ?_
  obtain ⟨v', w', hr, h2, h3, h4⟩ := run_append_where (P := P) t o.type e i z size bytes base ht hi hz hsize hby hzs hsz v n xs hown ad m c news hl hnews h1 h63 hbytes hbase
  unfold Oper.wp execOp
  simp only [ho, resolve, invoke, builtin, Sem.run_bind, Sem.run_pure, Result.andThen_ok, List.map_toArray, List.map_cons, List.map_nil, hs, hx, hr]
  exact hK _ _ (h v' w' h2 h3 h4)
end
end RowK
namespace Mem
open RowK
variable {α : Type}
/-- A slice of the call's own; its elements are only read. -/
def Listed (r : Rep α) (e : TypeId) (base : Nat) (w : World) (v : Value) (xs : List α) : Prop :=
  ∃ es : List (El α), vals es = xs ∧ w.ownsRow base e r.n v xs.length (cells es) ∧ (∀ x ∈ es, r.rep false w x.1 x.2.1 x.2.2) ∧ ∀ b ∈ fps es, v.ownBlock ≠ some b
section
variable {r : Rep α} {e : TypeId} {base : Nat} {w w' : World} {v : Value} {xs : List α}
theorem Listed.nil (r : Rep α) (e : TypeId) (base : Nat) (w : World) : Listed r e base w (.slice none 0 0) [] :=
  ⟨[], rfl, World.ownsRow_nil w base _ _, (fun _ h => by cases h), (fun _ h => by cases h)⟩
theorem Listed.empty (r : Rep α) (e : TypeId) (w : World) : Listed r e w.heap.size (w.alloc (.cells #[] e)) (.slice (some ⟨w.heap.size, 0, none⟩) 0 0) [] :=
  ⟨[], rfl, ⟨by simp [cells], Or.inr ⟨_, 0, #[], rfl, Nat.le_refl _, heap_alloc_new _ _, by simp, by simp, by simp, by simp [cells]⟩⟩, (fun _ h => by cases h), (fun _ h => by cases h)⟩
theorem Listed.below (h : Listed r e base w v xs) (hb : Below w.heap.size w w') : Listed r e base w' v xs := by
  obtain ⟨es, h1, h2, h3, h4⟩ := h
  refine ⟨es, h1, h2.kept (StrK.only_below hb none) ?_, fun x hx => Rep.below (h3 x hx) hb, h4⟩
  by_cases hv : v.ownBlock = none
  · exact Or.inl hv
  · exact Or.inr hv
/-- One more, whose blocks are not the row's. -/
theorem Listed.snoc {w5 : World} {v5 : Value} {es : List (El α)} {fp : List Nat} {cs : List Value} {x : α} (hv : vals es = xs)
    (he : ∀ y ∈ es, r.rep false w y.1 y.2.1 y.2.2) (hd : ∀ b ∈ fps es, v.ownBlock ≠ some b) (hx : r.rep false w fp cs x) (hxd : ∀ b ∈ fp, v.ownBlock ≠ some b)
    (h5 : w5.ownsRow base e r.n v5 (xs.length + 1) (cells es ++ cs)) (hg : w.grownBy w5 v.ownBlock) (hw : v5.ownBlock = v.ownBlock ∨ ∀ g, v5.ownBlock = some g → w.heap.size ≤ g) :
    Listed r e base w5 v5 (xs ++ [x]) := by
  have hne : ∀ b ∈ fps es ++ fp, b < w.heap.size ∧ v.ownBlock ≠ some b := fun b hb => by
    rcases List.mem_append.1 hb with hb | hb
    · obtain ⟨y, h6, h7⟩ := List.mem_flatMap.1 hb
      exact ⟨r.lt (he y h6) b h7, hd b hb⟩
    · exact ⟨r.lt hx b hb, hxd b hb⟩
  refine ⟨es ++ [(fp, cs, x)], by rw [vals_append, hv]; rfl, ?_, ?_, ?_⟩
  · rw [List.length_append, List.length_singleton, cells_append]
    simpa [cells] using h5
  · intro y h
    rcases List.mem_append.1 h with h | h
    · exact r.same (he y h) hg.size (fun b hb => hg.block b (r.lt (he y h) b hb) (fun e' => (hne b (List.mem_append_left _ (mem_fps h hb))).2 e'.symm))
    · rw [List.mem_singleton.1 h]
      exact r.same hx hg.size (fun b hb => hg.block b (r.lt hx b hb) (fun e' => (hne b (List.mem_append_right _ hb)).2 e'.symm))
  · intro b hb
    rw [fps_append] at hb
    have h6 := hne b (by
      rcases List.mem_append.1 hb with h | h
      · exact List.mem_append_left _ h
      · exact List.mem_append_right _ (by simpa [fps] using h))
    intro e
    rcases hw with hw | hw
    · exact h6.2 (by rw [← hw]; exact e)
    · have := hw b e
      omega
/-- .. read as a slice. -/
theorem Listed.rep (h : Listed r e base w v xs) (hn : 0 < r.n) : ∃ A c fp, v = .slice A xs.length c ∧ (Rep.slice r).rep false w fp [.slice A xs.length c] xs := by
  obtain ⟨es, rfl, h2, h3, h4⟩ := h
  obtain ⟨A, c, rfl, hr, hf, hc, hb⟩ := RowK.of_own h2
  by_cases h0 : es = []
  · subst h0
    exact ⟨A, c, [], rfl, A, c, rfl, hc, Or.inl ⟨rfl, rfl⟩⟩
  · have hl := cells_len (n := r.n) (es := es) (fun x hx => r.len (h3 x hx))
    have hne : cells es ≠ [] := fun e => by
      rw [e] at hl
      have h7 : 0 < es.length := List.length_pos_iff.2 h0
      have := Nat.mul_pos h7 hn
      simp at hl
      omega
    obtain ⟨b, o, rfl, ⟨k1, k2, k3⟩, hcell⟩ := hr hne
    exact ⟨_, c, b :: fps es, rfl, _, c, rfl, hc, Or.inr ⟨b, o, es, rfl, rfl, h0, rfl, k2, h3, fun _ => ⟨b, o, rfl, ⟨Nat.le_refl _, Nat.lt_succ_self _, by omega⟩, hcell⟩, fun h => by cases h⟩⟩
end
/-- An element of a slice. -/
theorem slice_at {r : Rep α} {q : Bool} {w : World} {fp : List Nat} {A : Option Addr} {n c : Nat} {xs : List α} (h : (Rep.slice r).rep q w fp [.slice A n c] xs) {k : Nat} (hk : k < xs.length) :
    ∃ b o f cs, A = some ⟨b, o, none⟩ ∧ b < w.heap.size ∧ r.rep q w f cs xs[k] ∧ (∀ i, i < r.n → w.cell? ⟨b, o + k * r.n + i, none⟩ = cs[i]?) ∧ ∀ x ∈ f, x ∈ fp := by
  obtain ⟨A', c', e, hc, ⟨rfl, rfl⟩ | ⟨b, o, es, rfl, rfl, hne, rfl, hl, he, hr, hf⟩⟩ := h
  · simp at hk
  · injection e with e _
    injection e with e1 e2 e3
    subst e1
    rw [vals_len] at hk
    have hlen := fun x hx => r.len (he x hx)
    have hcl := cells_len (n := r.n) (es := es) hlen
    refine ⟨b, o, es[k].1, es[k].2.1, rfl, hl, ?_, fun i hi => ?_, fun x hx => List.mem_cons_of_mem _ (mem_fps (List.getElem_mem hk) hx)⟩
    · have := he _ (List.getElem_mem hk)
      simpa [vals] using this
    · have hin : k * r.n + i < (cells es).length := by
        rw [hcl]
        have := Nat.mul_le_mul_right r.n (Nat.succ_le_of_lt hk)
        rw [Nat.succ_mul] at this
        omega
      obtain ⟨b', o', e', _, h2⟩ := hr (fun h0 => by rw [h0] at hin; simp at hin)
      injection e' with e'; injection e' with e1 e2; subst e1; subst e2
      have h3 := h2 (k * r.n + i) _ (List.getElem?_eq_getElem hin)
      rw [Nat.add_assoc, h3, ← List.getElem?_eq_getElem hin]
      exact cells_at hlen hk hi
end Mem
end Go.Proofs.YtaepfdgfjcdidaaGreatDoor
