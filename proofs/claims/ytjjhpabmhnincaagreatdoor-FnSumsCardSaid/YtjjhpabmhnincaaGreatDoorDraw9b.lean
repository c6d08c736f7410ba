import Derived.Test.YtjjhpabmhnincaaGreatDoorDraw9
import Derived.Test.YtjjhpabmhnincaaGreatDoorArgFmtA
/-
  The draws of the ninth chapter: a sum, and a text that may be one.
-/
namespace Go.Proofs.YtjjhpabmhnincaaGreatDoor
open Go.RowKit
namespace Draw
open RowK Mem LinM ArgM TextM CutI
theorem own_base {w : World} {base base' size n : Nat} {e : TypeId} {v : Value} {xs : List Value} (h : w.ownsRow base e size v n xs) (hb : ∀ b, v.ownBlock = some b → base' ≤ b) : w.ownsRow base' e size v n xs := by
  refine ⟨h.1, ?_⟩
  rcases h.2 with h2 | ⟨g, cap, cur, rfl, h3, h4⟩
  · exact Or.inl h2
  · exact Or.inr ⟨g, cap, cur, rfl, hb g rfl, h4⟩
def one9 : List ByteArray := [⟨#[110]⟩]
theorem one9_size : ∀ s ∈ one9, s.size ≤ 2 := by decide

set_option maxHeartbeats 4000000 in
set_option maxRecDepth 100000 in
theorem bentSum9 (g : Nat) (A : Option Addr) (n c : Nat) (w : World) (hC : Cur w g A n c) :
    Calls Tryz.prog 43 #[.pointer (some ⟨g, 0, none⟩)] w (SomeSum 2 w g A n c) := by
  have hgl := hC.lt
  have K1 := Lib.hid ((kept_refl hC).alloc (Obj.cells #[Value.int IntKind.i64 0, Value.slice none 0 0] 40))
  have L1 := Lib.hid (Lvar.new w #[Value.int IntKind.i64 0, Value.slice none 0 0] 40)
  go_enter Tryz.func43, Tryz.ntmps43
  go_wp2_with fail
  refine (bent9 g A n c _ K1.out.1).mono ?_
  rintro e w1 ⟨p, u, b, hs, rfl, hA, hO, hK⟩
  have hs1 := hK.2.size
  simp only [World.size_alloc] at hs1 hO
  obtain ⟨G, cg, fpg, rfl, _, _, _⟩ := hO.rep (Nat.succ_pos _)
  have HA := Lib.hid hA
  have K2 := Lib.hid ((K1.out.trans hK).alloc (Obj.cells #[Value.bool p, Value.slice G hs.length cg, Value.string b] 26))
  have L2 := Lib.hid ((L1.out.keep hK.2 (by omega)).alloc (Obj.cells #[Value.bool p, Value.slice G hs.length cg, Value.string b] 26))
  have V2 := Lib.hid (Lvar.new w1 #[Value.bool p, Value.slice G hs.length cg, Value.string b] 26)
  have O2 := Lib.hid (hO.below ((Below.refl _ _).alloc (Nat.le_refl _) (Obj.cells #[Value.bool p, Value.slice G hs.length cg, Value.string b] 26)))
  clear hA hO hK K1 L1
  go_upto_region 2 with fail
  generalize w1.alloc (Obj.cells #[Value.bool p, Value.slice G hs.length cg, Value.string b] 26) = w2 at *
  generalize w1.heap.size = h at *
  have hlt2 := V2.out.lt
  by_cases h0 : hs = []
  · subst h0
    have v1 := V2.out.cell 1 (.slice G ([] : List Sm).length cg) rfl
    simp only [List.length_nil] at v1
    have KB := Lib.hid (K2.out.alloc (Obj.cells #[Value.string ⟨#[110]⟩] 9))
    have LB := Lib.hid (L2.out.alloc (Obj.cells #[Value.string ⟨#[110]⟩] 9))
    go_wp2_with fail
    refine (sum9 g A n c (some ⟨w2.heap.size, 0, none⟩) 1 1 one9 rfl (by decide) (by omega) one9_size _ KB.out.1 (row_new w2 one9 9) (fun b e => by injection e with e; subst e; show w2.heap.size ≠ g; omega)).mono ?_
    rintro e w3 ⟨z, v, xs, rfl, hl, hx2, hO3, hK3⟩
    have hs3 := hK3.2.size
    simp only [World.size_alloc] at hs3 hO3
    obtain ⟨C, c3, rfl, _, _, _, _⟩ := RowK.of_own hO3
    have L3 := Lib.hid (LB.out.keep hK3.2 (by omega))
    have l0 := L3.out.cell 0 (.int .i64 0) rfl
    have l1 := L3.out.cell 1 (.slice none 0 0) rfl
    have p0 := L3.out.frozen 0
    have p1 := L3.out.frozen 1
    have F := Lib.hid (sum_fin (m := 2) (z := z) hgl (KB.out.trans hK3) (own_mono hO3 (by omega)) (by omega) hx2)
    clear hO3 hK3
    go_wp2
    exact bodyPost_ret (v := .agg #[.int .i64 z, .slice C xs.length c3]) (by simp [results, Tryz.results43, go_sem, l0, l1]) rfl F.out
  · obtain ⟨es, r1, r2, r3, r4, r5, r6⟩ := O2.out
    cases es with
    | nil => exact absurd r1.symm h0
    | cons e0 rest =>
      obtain ⟨fp0, cs0, z0, xs0⟩ := e0
      obtain ⟨vv, ec, ho0, ef⟩ := r3 _ List.mem_cons_self
      simp only at ec ho0 ef
      subst ec
      have hb9 : ∀ j, vv.ownBlock = some j → w.heap.size + 1 ≤ j := fun j hj => (r6 j (by simp [fps, ef, hj])).1
      obtain ⟨G0, c0, rfl, _, _, _, _⟩ := RowK.of_own ho0
      have hpos : 0 < hs.length := List.length_pos_iff.2 h0
      obtain ⟨b0, cu, eg, _, hb0⟩ := World.ownsRow.form r2 hpos
      injection eg with eg1 eg2 eg3
      subst eg1
      subst eg3
      have hx0 := HA.out.2.1 (z0, xs0) (by rw [← r1]; exact List.mem_cons_self)
      have cc0 : w2.cell? ⟨b0, 0, none⟩ = some (.int .i64 z0) := by
        rw [r2.cellAt 0 (by show 0 < hs.length * 2; omega)]
        rfl
      have cc1 : w2.cell? ⟨b0, 1, none⟩ = some (.slice G0 xs0.length c0) := by
        rw [r2.cellAt 1 (by show 1 < hs.length * 2; omega)]
        rfl
      have hpi : (0 : Int) < (hs.length : Int) := by omega
      have hd : ((hs.length : Int) == 0) = false := by simp; omega
      have hd' : (hs.length == 0) = false := by simp; omega
      have v1 := V2.out.cell 1 (.slice (some ⟨b0, 0, none⟩) hs.length cg) rfl
      have l0 := L2.out.cell 0 (.int .i64 0) rfl
      have l1 := L2.out.cell 1 (.slice none 0 0) rfl
      have p0 := L2.out.frozen 0
      have p1 := L2.out.frozen 1
      have F := Lib.hid (sum_fin (m := 2) (z := z0) hgl K2.out (own_base ho0 hb9) hx0.1 hx0.2)
      clear r1 r2 r3 r4 r5 r6 ho0 hx0 h0
      go_wp2
      exact bodyPost_ret (v := .agg #[.int .i64 z0, .slice G0 xs0.length c0]) (by simp [results, Tryz.results43, go_sem, l0, l1]) rfl F.out

/-- A small sum, somewhere in new memory. -/
def SumD (w : World) (e : Ending) (w' : World) : Prop :=
  ∃ (z : Int) (B : Option Addr) (d : Nat) (xs : List TItem), e = .returned (.agg #[.int .i64 z, .slice B xs.length d]) ∧ xs.length ≤ 2 ∧ (∀ t ∈ xs, t.2.size ≤ 2) ∧ ArgS term w' B xs.length d xs ∧ Below w.heap.size w w'
theorem sumD_of {w w1 w' : World} {g n c : Nat} {A : Option Addr} {e : Ending} (hb : Below w.heap.size w w1) (hg : w.heap.size ≤ g) (h : SomeSum 2 w1 g A n c e w') : SumD w e w' := by
  obtain ⟨z, v, xs, rfl, hl, hs, hO, hK⟩ := h
  obtain ⟨B, d, rfl, hO2⟩ := ArgI.owned_terms hO
  exact ⟨z, B, d, xs, rfl, hl, hs, hO2.arg, kept_new hb hg hK⟩

set_option maxHeartbeats 2000000 in
set_option maxRecDepth 100000 in
theorem drawFormatSum (A : Option Addr) (n c : Nat) (hn : n ≤ 1048576) (w : World) (hc : Code w A n) :
    Calls Tryz.prog 20 #[.slice A n c] w (SumD w) := by
  have B0 := Lib.hid ((Below.refl w.heap.size w).alloc (Nat.le_refl _) (Obj.cells #[Value.int IntKind.i64 0, Value.slice none 0 0] 40))
  have L0 := Lib.hid (Lvar.new w #[Value.int IntKind.i64 0, Value.slice none 0 0] 40)
  go_enter Tryz.func20, Tryz.ntmps20
  go_wp2_with fail
  refine (new A n c hn _ (hc.keep B0.out)).mono ?_
  rintro e w1 ⟨g, rfl, hC, hg, hb⟩
  simp only [World.size_alloc] at hg
  have B1 := Lib.hid (B0.out.trans (hb.mono B0.out.size))
  have L1 := Lib.hid (L0.out.below hb)
  have hgl := hC.lt
  go_wp2_with fail
  refine (bentSum9 g A n c _ hC).mono ?_
  rintro e w2 h
  have hm := h
  obtain ⟨z, v, xs, rfl, hl, hs, hO, hK⟩ := h
  obtain ⟨B, d, rfl, hO2⟩ := ArgI.owned_terms hO
  have L2 := Lib.hid (L1.out.keep hK.2 (by omega))
  have l0 := L2.out.cell 0 (.int .i64 0) rfl
  have l1 := L2.out.cell 1 (.slice none 0 0) rfl
  have p0 := L2.out.frozen 0
  have p1 := L2.out.frozen 1
  have hs1 : w.heap.size + 1 ≤ w1.heap.size := by have := hb.size; simpa using this
  have mm : Mod w.heap.size (w.heap.size + 1) w2 ((w2.setCell ⟨w.heap.size, 0, none⟩ (.int .i64 z)).setCell ⟨w.heap.size, 1, none⟩ (.slice B xs.length d)) := (Mod.set _ (p := ⟨w.heap.size, 0, none⟩) (Nat.le_refl _) (Nat.lt_succ_self _) _).trans (Mod.set _ (p := ⟨w.heap.size, 1, none⟩) (Nat.le_refl _) (Nat.lt_succ_self _) _)
  have F := Lib.hid (show SumD w (.returned (.agg #[.int .i64 z, .slice B xs.length d])) _ from ⟨z, B, d, xs, rfl, hl, hs, (hO2.keep mm (Or.inr hs1)).arg, below_mod (kept_new B1.out (by omega) hK) mm (Nat.le_refl _) (kept_new B1.out (by omega) hK).size⟩)
  clear hm hO hO2 hK mm hb
  go_wp2
  exact bodyPost_ret (v := .agg #[.int .i64 z, .slice B xs.length d]) (by simp [results, Tryz.results20, go_sem, l0, l1]) rfl F.out

/-- A text of at most so many bytes. -/
def TextD (m : Nat) (w : World) (e : Ending) (w' : World) : Prop := ∃ s : ByteArray, s.size ≤ m ∧ e = .returned (.string s) ∧ Below w.heap.size w w'
def turns9 : List ByteArray := [⟨#[32]⟩, ⟨#[45]⟩, ⟨#[32, 43, 32, 110]⟩, ⟨#[49]⟩, ⟨#[109]⟩, ⟨#[48]⟩]
theorem turns9_size : ∀ s ∈ turns9, s.size ≤ 4 := by decide
theorem FS_len (x : Sm) : (FS x).length ≤ 190 := by
  unfold FS
  split
  · rename_i h
    exact ArgP.fmtS_len h
  · simp

set_option maxHeartbeats 2000000 in
set_option maxRecDepth 100000 in
theorem drawParseSum (A : Option Addr) (n c : Nat) (hn : n ≤ 1048576) (w : World) (hc : Code w A n) :
    Calls Tryz.prog 27 #[.slice A n c] w (TextD 200 w) := by
  go_enter Tryz.func27, Tryz.ntmps27
  go_wp2_with fail
  refine (new A n c hn _ hc).mono ?_
  rintro e w1 ⟨g, rfl, hC, hg, hb⟩
  have B1 := Lib.hid hb
  have hgl := hC.lt
  go_wp2_with fail
  refine (bentSum9 g A n c _ hC).mono ?_
  rintro e w2 ⟨z, v, xs, rfl, hl, hs, hO, hK⟩
  obtain ⟨B, d, rfl, hO2⟩ := ArgI.owned_terms hO
  have hs2 := hK.2.size
  have FO := Lib.hid (ArgP.formatSum z B d xs w2 hO2.arg (by omega) (fun t ht => by have := hs t ht; omega))
  have hFl := FS_len (z, xs)
  have K2 := Lib.hid hK
  generalize FS (z, xs) = T at *
  clear hO hO2 hK hb hs
  go_wp2_with fail
  refine (Calls.mono FO.out) ?_
  rintro e w3 ⟨rfl, b3⟩
  have K3 := Lib.hid ((Kept.below K2.out b3).alloc (.cells (turns9.map Value.string).toArray 9))
  have TU := Lib.hid (turned g A n c ⟨T.toArray⟩ (by rw [TextI.size_mk]; omega) (some ⟨w3.heap.size, 0, none⟩) 6 6 turns9 rfl (by decide) (by omega) turns9_size _ K3.out.1 (row_new w3 turns9 9) (fun b e => by injection e with e; subst e; show w3.heap.size ≠ g; have := b3.size; omega))
  clear b3 FO
  go_wp2_with fail
  refine (Calls.mono TU.out) ?_
  rintro e w4 ⟨s, hs, rfl, hL⟩
  rw [TextI.size_mk T] at hs
  have F := Lib.hid (show TextD 200 w (.returned (.string s)) w4 from ⟨s, by omega, rfl, kept_new B1.out hg (K3.out.trans hL.kept)⟩)
  clear hs hL TU
  go_wp2
  go_ret
  exact F.out
end Draw
end Go.Proofs.YtjjhpabmhnincaaGreatDoor
