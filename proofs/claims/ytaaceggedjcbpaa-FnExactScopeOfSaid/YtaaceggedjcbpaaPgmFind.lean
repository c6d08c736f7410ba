import Derived.Test.YtaaceggedjcbpaaUProgram
import Derived.Test.YtaaceggedjcbpaaSysCopyI
import Derived.Test.YtaaceggedjcbpaaShelf
/-
  Functions of a program: copies and search, of the program.
-/
namespace Go.Proofs.Ytaaceggedjcbpaa
open Go.RowKit
namespace ProgI
open RowK Mem

/-- A function in new memory. -/
def GaveFn (w : World) (x : FunctionT) (e : Ending) (w' : World) : Prop :=
  ∃ A1 c1 A3 c3, e = .returned (.agg #[.string x.1, .slice A1 x.2.1.length c1, .bool x.2.2.1, .slice A3 x.2.2.2.length c3]) ∧ OwnR fn w.heap.size w'.heap.size w' [.string x.1, .slice A1 x.2.1.length c1, .bool x.2.2.1, .slice A3 x.2.2.2.length c3] x ∧ Below w.heap.size w w'

theorem cloneS (A : Option Addr) (c : Nat) (ss : List ByteArray) (w : World) (hA : ArgS Rep.str w A ss.length c ss) (hl : ss.length ≤ 100000000) :
    Calls Try.prog 69 #[.slice A ss.length c] w (fun e w' => ∃ B d, e = .returned (.slice B ss.length d) ∧ OwnS Rep.str w.heap.size w'.heap.size w' B ss.length d ss ∧ Below w.heap.size w w') := by
  have key : ∀ (w' : World) (v : Value), w'.ownsRow w.heap.size 9 1 v ss.length (ss.map Value.string) → Below w.heap.size w w' → ∃ B d, Ending.returned v = .returned (.slice B ss.length d) ∧ OwnS Rep.str w.heap.size w'.heap.size w' B ss.length d ss ∧ Below w.heap.size w w' := fun w' v h hb => by
    obtain ⟨B, d, e, h1, h2, h3, h4⟩ := StrK.of_own h
    have hr := strs_close (q := true) h1 (fun _ => h2) h4
    refine ⟨B, d, by rw [e], ⟨Nat.le_refl _, _, hr, fpS_nodup _ _, fun b hb' => ⟨?_, (Rep.slice Rep.str).lt hr b hb'⟩⟩, hb⟩
    unfold fpS at hb'
    split at hb'
    · cases hb'
    · cases hB : B with
      | none => rw [hB] at hb'; cases hb'
      | some a =>
        rw [hB] at hb'
        simp at hb'
        rw [hb']
        exact h3 a hB
  obtain ⟨q, fp, hA⟩ := hA
  obtain ⟨hr, _⟩ := strs_open hA
  by_cases hn : ss = []
  · subst hn
    cases A with
    | none =>
      refine (Try.slices_Clone_string_nil _ _ _).mono ?_
      rintro e w' ⟨rfl, rfl⟩
      exact ⟨none, 0, rfl, OwnS.nil _ _ _ _ (Nat.le_refl _), Below.refl _ _⟩
    | some a =>
      refine (Try.slices_Clone_string_zero a c w).mono ?_
      rintro e w' ⟨v, rfl, h, _, hb⟩
      exact key w' v h hb
  · obtain ⟨b, o, rfl, hlt, hc⟩ := hr hn
    refine (Try.slices_Clone_string b o ss.length c ss w (Nat.le_refl _) (by omega) (fun j hj => ?_)).mono ?_
    · rw [hc j ss[j] (List.getElem?_eq_getElem hj)]
      simp [List.getD, List.getElem?_eq_getElem hj]
    · rintro e w' ⟨v, rfl, h, _, hb⟩
      rw [List.take_length] at h
      exact key w' v h hb
/-- The copies of expressions. -/
theorem copyLins (A : Option Addr) (c : Nat) (xs : List (Int × List Int)) (w : World) (hA : ArgS lin w A xs.length c xs) (hl : xs.length + szs szLin xs ≤ 100000000) :
    Calls Try.prog 70 #[.slice A xs.length c, .func (.func 71) #[] #[]] w fun e w' => ∃ B d, e = .returned (.slice B xs.length d) ∧ OwnS lin w.heap.size w'.heap.size w' B xs.length d xs ∧ Below w.heap.size w w' := by
  refine (SysI.copied A c xs w hA (by rw [linsSize_szs]; omega)).mono ?_
  rintro e w' ⟨v, rfl, hO, hb⟩
  obtain ⟨B, d, rfl, h⟩ := hO.ownS (by decide) (fun b h => h)
  exact ⟨B, d, rfl, h, hb⟩

set_option maxHeartbeats 4000000 in
set_option maxRecDepth 100000 in
theorem copyFn (z0 : ByteArray) (A1 : Option Addr) (c1 : Nat) (x1 : List ByteArray) (z2 : Bool) (A3 : Option Addr) (c3 : Nat) (x3 : List (Int × List Int)) (w : World)
    (h1 : ArgS Rep.str w A1 x1.length c1 x1) (h3 : ArgS lin w A3 x3.length c3 x3) (hl : szFunctionU (z0, x1, z2, x3) ≤ 100000000) :
    Calls Try.prog 31 #[.agg #[.string z0, .slice A1 x1.length c1, .bool z2, .slice A3 x3.length c3]] w (GaveFn w (z0, x1, z2, x3)) := by
  simp only [szFunctionU] at hl
  have C1 := Lib.hid (fun W (h : Below w.heap.size w W) => cloneS A1 c1 x1 W (h1.below h) (by omega))
  have C3 := Lib.hid (fun W (h : Below w.heap.size w W) => copyLins A3 c3 x3 W (h3.below h) (by omega))
  clear h1 h3 hl
  go_enter Try.func31, Try.ntmps31
  go_wp2_with fail
  refine (Calls.mono (C1.out _ (by repeat (first | with_reducible exact Below.refl _ _ | with_reducible exact Below.refl _ _ | refine Below.setCell ?_ (by first | omega | (simp; done) | (simp; omega)) _ | refine Below.alloc ?_ (by first | omega | (simp; done) | (simp; omega)) _)))) ?_
  rintro e w0 ⟨D1, d1, rfl, o1, b0⟩
  have B0 : Below w.heap.size w w0 := below_step (by repeat (first | with_reducible exact Below.refl _ _ | with_reducible exact Below.refl _ _ | refine Below.setCell ?_ (by first | omega | (simp; done) | (simp; omega)) _ | refine Below.alloc ?_ (by first | omega | (simp; done) | (simp; omega)) _)) b0
  have hz0 := b0.size
  simp only [World.size_alloc, OwnS] at hz0 o1
  have VA0 := ((Lvar.new w #[Value.string z0, Value.slice A1 x1.length c1, Value.bool z2, Value.slice A3 x3.length c3] 30).alloc (Obj.cells #[Value.string ByteArray.empty, Value.slice none 0 0, Value.bool false, Value.slice none 0 0] 30)).below b0
  have VB0 := (Lvar.new (w.alloc (Obj.cells #[Value.string z0, Value.slice A1 x1.length c1, Value.bool z2, Value.slice A3 x3.length c3] 30)) #[Value.string ByteArray.empty, Value.slice none 0 0, Value.bool false, Value.slice none 0 0] 30).below b0
  simp only [World.size_alloc] at VB0
  have cA0_0 := VA0.cell 0 _ rfl
  have cA0_1 := VA0.cell 1 _ rfl
  have cA0_2 := VA0.cell 2 _ rfl
  have cA0_3 := VA0.cell 3 _ rfl
  have yA0_1 := VA0.frozen 1
  have VA0 := Lib.hid VA0
  have VB0 := Lib.hid VB0
  clear b0
  go_wp2_with fail
  refine (Calls.mono (C3.out _ (by repeat (first | with_reducible exact B0 | with_reducible exact Below.refl _ _ | refine Below.setCell ?_ (by first | omega | (simp; done) | (simp; omega)) _ | refine Below.alloc ?_ (by first | omega | (simp; done) | (simp; omega)) _)))) ?_
  rintro e w1 ⟨D3, d3, rfl, o3, b1⟩
  have B1 : Below w.heap.size w w1 := below_step (by repeat (first | with_reducible exact B0 | with_reducible exact Below.refl _ _ | refine Below.setCell ?_ (by first | omega | (simp; done) | (simp; omega)) _ | refine Below.alloc ?_ (by first | omega | (simp; done) | (simp; omega)) _)) b1
  have hz1 := b1.size
  simp only [World.size_setCell, OwnS] at hz1 o3
  have o1 : OwnR (Rep.slice Rep.str) (w.heap.size + 1 + 1) w0.heap.size w1 [.slice D1 x1.length d1] x1 := OwnR.below (OwnR.keep o1 (show Mod w.heap.size (w.heap.size + 2) w0 _ from (by repeat (first | with_reducible exact Mod.refl _ _ _ | refine Mod.trans ?_ (Mod.set _ (by first | omega | (simp; done) | (simp; omega)) (by first | omega | (simp; done) | (simp; omega)) _)))) (Or.inr (by omega))) b1
  have VA1 : Lvar w1 w.heap.size #[Value.string z0, Value.slice D1 x1.length d1, Value.bool z2, Value.slice A3 x3.length c3] := (VA0.out.set 1 (Value.slice D1 x1.length d1)).below b1
  have VB1 := (VB0.out.other (p := ⟨w.heap.size, 1, none⟩) (by first | omega | (simp; done) | (simp; omega)) (Value.slice D1 x1.length d1)).below b1
  clear cA0_0 cA0_1 cA0_2 cA0_3 yA0_1 VA0 VB0 b1
  have cA1_0 := VA1.cell 0 _ rfl
  have cA1_1 := VA1.cell 1 _ rfl
  have cA1_2 := VA1.cell 2 _ rfl
  have cA1_3 := VA1.cell 3 _ rfl
  have yA1_3 := VA1.frozen 3
  have cB1_0 := VB1.cell 0 _ rfl
  have cB1_1 := VB1.cell 1 _ rfl
  have cB1_2 := VB1.cell 2 _ rfl
  have cB1_3 := VB1.cell 3 _ rfl
  have yB1_0 := VB1.frozen 0
  have yB1_1 := VB1.frozen 1
  have yB1_2 := VB1.frozen 2
  have yB1_3 := VB1.frozen 3
  have VB1 := Lib.hid VB1
  have VA1 := Lib.hid VA1
  have o3 : OwnR (Rep.slice lin) w0.heap.size w1.heap.size w1 [.slice D3 x3.length d3] x3 := o3
  have O1 := Lib.hid o1
  have O3 := Lib.hid o3
  clear o1 o3
  go_wp2_with fail
  have VC := ((((((VB1.out.other (p := ⟨w.heap.size, 3, none⟩) (by first | omega | (simp; done) | (simp; omega)) (Value.slice D3 x3.length d3)).set 0 (Value.string z0)).set 1 (Value.slice D1 x1.length d1)).set 2 (Value.bool z2)).set 3 (Value.slice D3 x3.length d3)))
  obtain ⟨T9, hT9⟩ := (show Lvar _ (w.heap.size + 1) #[Value.string z0, Value.slice D1 x1.length d1, Value.bool z2, Value.slice D3 x3.length d3] from VC)
  obtain ⟨i9, hi9, _, hs9, _⟩ := info_parts infoFunction
  refine bodyPost_ret (results_cell_row rfl _ _ (w.heap.size + 1) T9 #[.string z0, .slice D1 x1.length d1, .bool z2, .slice D3 x3.length d3] _ _ rfl hT9 Try.underlying30 rfl (by rw [hi9, Option.map_some, hs9]; rfl)) rfl ?_
  have key : ∀ {u : World}, Mod w.heap.size (w.heap.size + 2) w1 u → OwnR fn w.heap.size u.heap.size u [.string z0, .slice D1 x1.length d1, .bool z2, .slice D3 x3.length d3] (z0, x1, z2, x3) ∧ Below w.heap.size w u := fun {u} hm => by
    have hs := hm.size
    have o1 := OwnR.keep O1.out hm (Or.inr (by omega))
    have o3 := OwnR.keep O3.out hm (Or.inr (by omega))
    exact ⟨OwnR.prod (mid := w.heap.size) (OwnR.str (by omega) z0) (OwnR.prod (mid := w0.heap.size) (o1.wider (lo' := w.heap.size) (hi' := w0.heap.size) (by omega) (by omega) (by omega)) (OwnR.prod (mid := w0.heap.size) (OwnR.bool (by omega) z2) (o3.wider (by omega) (by omega) (Nat.le_refl _)) (by omega) (by omega)) (by omega) (by omega)) (by omega) (by omega), below_mod B1 hm (Nat.le_refl _) B1.size⟩
  refine ⟨D1, d1, D3, d3, rfl, key ?_⟩
  repeat (first | with_reducible exact Mod.refl _ _ _ | refine Mod.trans ?_ (Mod.set _ (by first | omega | (simp; done) | (simp; omega)) (by first | omega | (simp; done) | (simp; omega)) _))
end ProgI
end Go.Proofs.Ytaaceggedjcbpaa
