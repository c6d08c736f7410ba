import Derived.Test.YtiilopfhlmeaoaaGreatDoorDraw9b
/-
  The draws of the ninth chapter: an argument, and a text that may be one.
-/
namespace Go.Proofs.YtiilopfhlmeaoaaGreatDoor
open Go.RowKit
namespace Draw
open RowK Mem LinM ArgM TextM CutI

/-- A small argument, somewhere in new memory. -/
def ArgD (w : World) (e : Ending) (w' : World) : Prop :=
  ∃ (p : Bool) (B : Option Addr) (d : Nat) (b : ByteArray) (hs : List Sm), e = .returned (.agg #[.bool p, .slice B hs.length d, .string b]) ∧ ArgIs 3 2 hs b ∧ ArgS Mem.sum w' B hs.length d hs ∧ Below w.heap.size w w'
theorem szs_small : ∀ hs : List Sm, (∀ h ∈ hs, h.2.length ≤ 2 ∧ ∀ t ∈ h.2, t.2.size ≤ 2) → szs ssl hs ≤ 2 * hs.length
  | [], _ => Nat.le_refl _
  | h :: hs, hh => by
    have h1 := szs_small hs (fun x hx => hh x (List.mem_cons_of_mem _ hx))
    have h2 := (hh h List.mem_cons_self).1
    rw [szs_cons, List.length_cons]
    unfold ssl at h1 ⊢
    omega
theorem FA_len (p : Bool) (hs : List Sm) (b : ByteArray) : (FA (p, hs, b)).length ≤ 600 := by
  unfold FA
  split
  · rename_i hv
    cases p with
    | false =>
      obtain ⟨k, rfl, hk, _⟩ := argV_int.1 hv
      have := ArgP.fmtS_len hk
      show (fmtS k).length ≤ 600
      omega
    | true =>
      obtain ⟨a1, a2, a3⟩ := argV_list.1 hv
      have h1 := ArgP.headsT_len a1
      have h2 : (baseT b).length ≤ 8 := by
        by_cases h0 : b.size = 0
        · rw [baseT, if_pos h0]
          decide
        · rw [baseT, if_neg h0, size_list]
          simp only [baseV, Bool.or_eq_true, decide_eq_true_eq] at a3
          exact (valid_shape (list_valid (a3.resolve_left h0))).2
      show (headsT hs ++ baseT b).length ≤ 600
      rw [List.length_append]
      omega
  · simp

set_option maxHeartbeats 2000000 in
set_option maxRecDepth 100000 in
theorem drawFormatArg (A : Option Addr) (n c : Nat) (hn : n ≤ 1048576) (w : World) (hc : Code w A n) :
    Calls Tryz.prog 5 #[.slice A n c] w (ArgD w) := by
  have B0 := Lib.hid ((Below.refl w.heap.size w).alloc (Nat.le_refl _) (Obj.cells #[Value.bool false, Value.slice none 0 0, Value.string ⟨#[]⟩] 26))
  have L0 := Lib.hid (Lvar.new w #[Value.bool false, Value.slice none 0 0, Value.string ⟨#[]⟩] 26)
  go_enter Tryz.func5, Tryz.ntmps5
  go_wp2_with fail
  refine (new A n c hn _ (hc.keep B0.out)).mono ?_
  rintro e w1 ⟨g, rfl, hC, hg, hb⟩
  simp only [World.size_alloc] at hg
  have B1 := Lib.hid (B0.out.trans (hb.mono B0.out.size))
  have L1 := Lib.hid (L0.out.below hb)
  have hgl := hC.lt
  go_wp2_with fail
  refine (bent9 g A n c _ hC).mono ?_
  rintro e w2 ⟨p, v, b, hs, rfl, hA, hO, hK⟩
  obtain ⟨B, d, rfl, hO2⟩ := (owned_plain hO).ownS (lo := w1.heap.size) (by decide) (fun b hb => hb)
  have L2 := Lib.hid (L1.out.keep hK.2 (by omega))
  have l0 := L2.out.cell 0 (.bool false) rfl
  have l1 := L2.out.cell 1 (.slice none 0 0) rfl
  have l2 := L2.out.cell 2 (.string ⟨#[]⟩) rfl
  have p0 := L2.out.frozen 0
  have p1 := L2.out.frozen 1
  have p2 := L2.out.frozen 2
  have hs1 : w.heap.size + 1 ≤ w1.heap.size := by have := hb.size; simpa using this
  have mm : Mod w.heap.size (w.heap.size + 1) w2 (((w2.setCell ⟨w.heap.size, 0, none⟩ (.bool p)).setCell ⟨w.heap.size, 1, none⟩ (.slice B hs.length d)).setCell ⟨w.heap.size, 2, none⟩ (.string b)) := ((Mod.set _ (p := ⟨w.heap.size, 0, none⟩) (Nat.le_refl _) (Nat.lt_succ_self _) _).trans (Mod.set _ (p := ⟨w.heap.size, 1, none⟩) (Nat.le_refl _) (Nat.lt_succ_self _) _)).trans (Mod.set _ (p := ⟨w.heap.size, 2, none⟩) (Nat.le_refl _) (Nat.lt_succ_self _) _)
  have F := Lib.hid (show ArgD w (.returned (.agg #[.bool p, .slice B hs.length d, .string b])) _ from ⟨p, B, d, b, hs, rfl, hA, (hO2.keep mm (Or.inr hs1)).arg, below_mod (kept_new B1.out (by omega) hK) mm (Nat.le_refl _) (kept_new B1.out (by omega) hK).size⟩)
  clear hA hO hO2 hK mm hb
  go_wp2
  exact bodyPost_ret (v := .agg #[.bool p, .slice B hs.length d, .string b]) (by simp [results, Tryz.results5, go_sem, l0, l1, l2]) rfl F.out

def turns9a : List ByteArray := [⟨#[32]⟩, ⟨#[58]⟩, ⟨#[32, 58, 32]⟩, ⟨#[110, 105, 108]⟩, ⟨#[120, 115]⟩, ⟨#[45]⟩, ⟨#[110]⟩]
theorem turns9a_size : ∀ s ∈ turns9a, s.size ≤ 4 := by decide

set_option maxHeartbeats 2000000 in
set_option maxRecDepth 100000 in
theorem drawParseArg (A : Option Addr) (n c : Nat) (hn : n ≤ 1048576) (w : World) (hc : Code w A n) :
    Calls Tryz.prog 13 #[.slice A n c] w (TextD 700 w) := by
  go_enter Tryz.func13, Tryz.ntmps13
  go_wp2_with fail
  refine (new A n c hn _ hc).mono ?_
  rintro e w1 ⟨g, rfl, hC, hg, hb⟩
  have B1 := Lib.hid hb
  have hgl := hC.lt
  go_wp2_with fail
  refine (bent9 g A n c _ hC).mono ?_
  rintro e w2 ⟨p, v, b, hs, rfl, hA, hO, hK⟩
  obtain ⟨B, d, rfl, hO2⟩ := (owned_plain hO).ownS (lo := w1.heap.size) (by decide) (fun b hb => hb)
  have hs2 := hK.2.size
  have hz := szs_small hs hA.2.1
  have FO := Lib.hid (ArgP.formatArg p b B d hs w2 hO2.arg (by have := hA.1; omega) (fun x hx t ht => by have := (hA.2.1 x hx).2 t ht; omega) (by have := hA.2.2; omega))
  have hFl := FA_len p hs b
  have K2 := Lib.hid hK
  generalize FA (p, hs, b) = T at *
  clear hO hO2 hK hb hA hz
  go_wp2_with fail
  refine (Calls.mono FO.out) ?_
  rintro e w3 ⟨rfl, b3⟩
  have K3 := Lib.hid ((Kept.below K2.out b3).alloc (.cells (turns9a.map Value.string).toArray 9))
  have TU := Lib.hid (turned g A n c ⟨T.toArray⟩ (by rw [TextI.size_mk]; omega) (some ⟨w3.heap.size, 0, none⟩) 7 7 turns9a rfl (by decide) (by omega) turns9a_size _ K3.out.1 (row_new w3 turns9a 9) (fun b e => by injection e with e; subst e; show w3.heap.size ≠ g; have := b3.size; omega))
  clear b3 FO
  go_wp2_with fail
  refine (Calls.mono TU.out) ?_
  rintro e w4 ⟨s, hs, rfl, hL⟩
  rw [TextI.size_mk T] at hs
  have F := Lib.hid (show TextD 700 w (.returned (.string s)) w4 from ⟨s, by omega, rfl, kept_new B1.out hg (K3.out.trans hL.kept)⟩)
  clear hs hL TU
  go_wp2
  go_ret
  exact F.out
end Draw
end Go.Proofs.YtiilopfhlmeaoaaGreatDoor
