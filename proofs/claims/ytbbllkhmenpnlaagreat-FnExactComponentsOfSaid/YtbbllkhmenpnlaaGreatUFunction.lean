import Derived.Test.YtbbllkhmenpnlaaGreatRepUni
import Derived.Deep.RegionLaw
import Derived.Deep.RegionHeld3
/-
  The laws' helpers on Function: copies, sizes, comparison, marks (made by tools/ukit.py).
-/
namespace Go.Proofs.YtbbllkhmenpnlaaGreat
open Go.RowKit
namespace Mem
open RowK

abbrev FunctionT := ByteArray × List ByteArray × Bool × List (Int × List Int)
def fn : Rep FunctionT := Rep.prod Rep.str (Rep.prod (Rep.slice Rep.str) (Rep.prod Rep.bool (Rep.slice lin)))
theorem fn_open {q : Bool} {w : World} {fp : List Nat} {cs : List Value} {p : FunctionT} (h : fn.rep q w fp cs p) : ∃ (A1 : Option Addr) (c1 : Nat) (f1 : List Nat) (A3 : Option Addr) (c3 : Nat) (f3 : List Nat), fp = f1 ++ f3 ∧ cs = [.string p.1, .slice A1 p.2.1.length c1, .bool p.2.2.1, .slice A3 p.2.2.2.length c3] ∧ (Rep.slice Rep.str).rep q w f1 [.slice A1 p.2.1.length c1] p.2.1 ∧ (Rep.slice lin).rep q w f3 [.slice A3 p.2.2.2.length c3] p.2.2.2 := by
 obtain ⟨g0, g0', d0, d0', rfl, rfl, k0, h'⟩ := h
 obtain ⟨rfl, rfl⟩ := k0
 obtain ⟨g1, g1', d1, d1', rfl, rfl, k1, h''⟩ := h'
 have r1 := k1
 obtain ⟨A1, c1, rfl, _⟩ := k1
 obtain ⟨g2, g2', d2, d2', rfl, rfl, k2, h'''⟩ := h''
 obtain ⟨rfl, rfl⟩ := k2
 have r3 := h'''
 obtain ⟨A3, c3, rfl, _⟩ := h'''
 exact ⟨A1, c1, _, A3, c3, _, by simp, rfl, r1, r3⟩
theorem fn_close {q : Bool} {w : World} {A1 : Option Addr} {c1 : Nat} {f1 : List Nat} {x1 : List ByteArray} {A3 : Option Addr} {c3 : Nat} {f3 : List Nat} {x3 : List (Int × List Int)} (z0 : ByteArray) (z2 : Bool) (h1 : (Rep.slice Rep.str).rep q w f1 [.slice A1 x1.length c1] x1) (h3 : (Rep.slice lin).rep q w f3 [.slice A3 x3.length c3] x3) : fn.rep q w (f1 ++ f3) [.string z0, .slice A1 x1.length c1, .bool z2, .slice A3 x3.length c3] (z0, x1, z2, x3) := by
 have e : (f1 ++ f3 : List Nat) = [] ++ (f1 ++ ([] ++ (f3))) := by simp
 rw [e]
 exact (show fn.rep q w ([] ++ (f1 ++ ([] ++ (f3)))) ([.string z0] ++ ([.slice A1 x1.length c1] ++ ([.bool z2] ++ ([.slice A3 x3.length c3])))) _ from ⟨_, _, _, _, rfl, rfl, ⟨rfl, rfl⟩, ⟨_, _, _, _, rfl, rfl, h1, ⟨_, _, _, _, rfl, rfl, ⟨rfl, rfl⟩, h3⟩⟩⟩)
theorem fn_parts {q : Bool} {w : World} {fp : List Nat} {A1 : Option Addr} {c1 : Nat} {x1 : List ByteArray} {A3 : Option Addr} {c3 : Nat} {x3 : List (Int × List Int)} {z0 : ByteArray} {z2 : Bool} (h : fn.rep q w fp [.string z0, .slice A1 x1.length c1, .bool z2, .slice A3 x3.length c3] (z0, x1, z2, x3)) : ∃ f1 f3, fp = f1 ++ f3 ∧ (Rep.slice Rep.str).rep q w f1 [.slice A1 x1.length c1] x1 ∧ (Rep.slice lin).rep q w f3 [.slice A3 x3.length c3] x3 := by
 obtain ⟨B1, e1, f1, B3, e3, f3, hf, hc, r1, r3⟩ := fn_open h
 injection hc with hc0 hc
 injection hc with hc1 hc
 injection hc with hc2 hc
 injection hc with hc3 hc
 injection hc1 with ha1 _ hb1
 subst ha1; subst hb1
 injection hc3 with ha3 _ hb3
 subst ha3; subst hb3
 exact ⟨f1, f3, hf, r1, r3⟩
theorem fns_at {q : Bool} {w : World} {fp : List Nat} {A : Option Addr} {n c : Nat} {xs : List FunctionT} (h : (Rep.slice fn).rep q w fp [.slice A n c] xs) {k : Nat} (hk : k < xs.length) :
  ∃ b o A1 c1 f1 A3 c3 f3, A = some ⟨b, o, none⟩ ∧ b < w.heap.size ∧ w.cell? ⟨b, o + k * 4, none⟩ = some (.string xs[k].1) ∧ w.cell? ⟨b, o + k * 4 + 1, none⟩ = some (.slice A1 xs[k].2.1.length c1) ∧ w.cell? ⟨b, o + k * 4 + 2, none⟩ = some (.bool xs[k].2.2.1) ∧ w.cell? ⟨b, o + k * 4 + 3, none⟩ = some (.slice A3 xs[k].2.2.2.length c3) ∧ (Rep.slice Rep.str).rep q w f1 [.slice A1 xs[k].2.1.length c1] xs[k].2.1 ∧ (Rep.slice lin).rep q w f3 [.slice A3 xs[k].2.2.2.length c3] xs[k].2.2.2 := by
 obtain ⟨b, o, f, cs, rfl, hb, hr, hc, _⟩ := slice_at h hk
 obtain ⟨A1, c1, f1, A3, c3, f3, _, rfl, r1, r3⟩ := fn_open hr
 have hn : fn.n = 4 := rfl
 rw [hn] at hc
 exact ⟨b, o, A1, c1, f1, A3, c3, f3, rfl, hb, hc 0 (by omega), hc 1 (by omega), hc 2 (by omega), hc 3 (by omega), r1, r3⟩
theorem ArgS.fn_at {w : World} {A : Option Addr} {n c : Nat} {xs : List FunctionT} (h : ArgS fn w A n c xs) {k : Nat} (hk : k < xs.length) :
  ∃ b o A1 c1 A3 c3, A = some ⟨b, o, none⟩ ∧ b < w.heap.size ∧ w.cell? ⟨b, o + k * 4, none⟩ = some (.string xs[k].1) ∧ w.cell? ⟨b, o + k * 4 + 1, none⟩ = some (.slice A1 xs[k].2.1.length c1) ∧ w.cell? ⟨b, o + k * 4 + 2, none⟩ = some (.bool xs[k].2.2.1) ∧ w.cell? ⟨b, o + k * 4 + 3, none⟩ = some (.slice A3 xs[k].2.2.2.length c3) ∧ ArgS Rep.str w A1 xs[k].2.1.length c1 xs[k].2.1 ∧ ArgS lin w A3 xs[k].2.2.2.length c3 xs[k].2.2.2 := by
 obtain ⟨q, fp, h⟩ := h
 obtain ⟨b, o, A1, c1, f1, A3, c3, f3, rfl, hb, h0, h1, h2, h3, r1, r3⟩ := fns_at h hk
 exact ⟨b, o, A1, c1, A3, c3, rfl, hb, h0, h1, h2, h3, ⟨q, f1, r1⟩, q, f3, r3⟩
def szFunctionU (x : FunctionT) : Nat := x.1.size + (x.2.1.length + szs szStr x.2.1) + (x.2.2.2.length + szs szLin x.2.2.2)
def WfFunctionU (x : FunctionT) : Prop := x.1.size ≤ 9223372036854775807 ∧ x.2.1.length ≤ 9223372036854775807 ∧ (∀ e ∈ x.2.1, WfStr e) ∧ True ∧ x.2.2.2.length ≤ 9223372036854775807 ∧ (∀ e ∈ x.2.2.2, WfLinU e)
def mkFunctionU (k : Nat) (x : FunctionT) : FunctionT := (StrK.mt (k), mks mkStr nStr (k + 1) x.2.1, mb (k + 1 + szs nStr x.2.1), mks mkLin nLin (k + 1 + szs nStr x.2.1 + 1) x.2.2.2)
def nFunctionU (x : FunctionT) : Nat := 2 + szs nStr x.2.1 + szs nLin x.2.2.2
theorem nFunctionU_le (x : FunctionT) : nFunctionU x ≤ 8 * (1 + szFunctionU x) := by
 have h1 := szs_bound nStr_le x.2.1
 have h3 := szs_bound nLin_le x.2.2.2
 unfold nFunctionU szFunctionU
 omega
theorem infoFunction : (Tryz.prog.info? 98).map (fun i => (i.zero, i.size, i.bytes)) = some (some (.agg #[.string ByteArray.empty, .slice none 0 0, .bool false, .slice none 0 0]), 4, 72) := by kernel_rfl
def zeroFunction : El FunctionT := ([], [.string ByteArray.empty, .slice none 0 0, .bool false, .slice none 0 0], (ByteArray.empty, [], false, []))
set_option maxHeartbeats 4000000 in
set_option maxRecDepth 100000 in
theorem copyFunctionU (q1 : Bool) (f1 : List Nat) (q3 : Bool) (f3 : List Nat) (z0 : ByteArray) (A1 : Option Addr) (c1 : Nat) (x1 : List ByteArray) (z2 : Bool) (A3 : Option Addr) (c3 : Nat) (x3 : List (Int × List Int)) (w : World) (h1 : (Rep.slice Rep.str).rep q1 w f1 [.slice A1 x1.length c1] x1) (h3 : (Rep.slice lin).rep q3 w f3 [.slice A3 x3.length c3] x3) (hl : szFunctionU (z0, x1, z2, x3) ≤ 100000000) :
  Calls Tryz.prog 107 #[.agg #[.string z0, .slice A1 x1.length c1, .bool z2, .slice A3 x3.length c3]] w fun e w' => ∃ B1 B3, e = .returned (.agg #[.string z0, .slice B1 x1.length x1.length, .bool z2, .slice B3 x3.length x3.length]) ∧ OwnR fn w.heap.size w'.heap.size w' [.string z0, .slice B1 x1.length x1.length, .bool z2, .slice B3 x3.length x3.length] (z0, x1, z2, x3) ∧ Below w.heap.size w w' := by
 simp only [szFunctionU] at hl
 have CP0 := Lib.hid (fun W (h : Below w.heap.size w W) => copyStringSU q1 f1 A1 c1 x1 W (Rep.below h1 h) (by omega))
 have CP1 := Lib.hid (fun W (h : Below w.heap.size w W) => copyLinSU q3 f3 A3 c3 x3 W (Rep.below h3 h) (by omega))
 clear hl h1 h3
 go_enter Tryz.func107, Tryz.ntmps107
 go_wp2_with fail
 refine (Calls.mono (CP0.out _ (by repeat (first | with_reducible exact Below.refl _ _ | with_reducible exact Below.refl _ _ | refine Below.setCell ?_ (by first | omega | (simp; done) | (simp; omega)) _ | refine Below.alloc ?_ (by first | omega | (simp; done) | (simp; omega)) _)))) ?_
 rintro e w0 ⟨D1, rfl, o0, b0⟩
 have B0 : Below w.heap.size w w0 := below_step (by repeat (first | with_reducible exact Below.refl _ _ | with_reducible exact Below.refl _ _ | refine Below.setCell ?_ (by first | omega | (simp; done) | (simp; omega)) _ | refine Below.alloc ?_ (by first | omega | (simp; done) | (simp; omega)) _)) b0
 have hz0 := b0.size
 simp only [World.size_alloc] at hz0 o0
 have VA0 := (((Lvar.new w #[Value.string z0, Value.slice A1 x1.length c1, Value.bool z2, Value.slice A3 x3.length c3] 137).alloc (Obj.cells #[Value.string ByteArray.empty, Value.slice none 0 0, Value.bool false, Value.slice none 0 0] 98)).alloc (Obj.cells #[Value.string z0, Value.slice none 0 0, Value.bool false, Value.slice none 0 0] 98)).below b0
 have VB0 := ((Lvar.new (w.alloc (Obj.cells #[Value.string z0, Value.slice A1 x1.length c1, Value.bool z2, Value.slice A3 x3.length c3] 137)) #[Value.string ByteArray.empty, Value.slice none 0 0, Value.bool false, Value.slice none 0 0] 98).alloc (Obj.cells #[Value.string z0, Value.slice none 0 0, Value.bool false, Value.slice none 0 0] 98)).below b0
 have VC0 := (Lvar.new ((w.alloc (Obj.cells #[Value.string z0, Value.slice A1 x1.length c1, Value.bool z2, Value.slice A3 x3.length c3] 137)).alloc (Obj.cells #[Value.string ByteArray.empty, Value.slice none 0 0, Value.bool false, Value.slice none 0 0] 98)) #[Value.string z0, Value.slice none 0 0, Value.bool false, Value.slice none 0 0] 98).below b0
 simp only [World.size_alloc] at VB0 VC0
 have cA0_0 := VA0.cell 0 _ rfl
 have cA0_1 := VA0.cell 1 _ rfl
 have cA0_2 := VA0.cell 2 _ rfl
 have cA0_3 := VA0.cell 3 _ rfl
 have cB0_0 := VB0.cell 0 _ rfl
 have cB0_1 := VB0.cell 1 _ rfl
 have cB0_2 := VB0.cell 2 _ rfl
 have cB0_3 := VB0.cell 3 _ rfl
 have yB0_0 := VB0.frozen 0
 have yB0_1 := VB0.frozen 1
 have yB0_2 := VB0.frozen 2
 have yB0_3 := VB0.frozen 3
 have cC0_0 := VC0.cell 0 _ rfl
 have cC0_1 := VC0.cell 1 _ rfl
 have cC0_2 := VC0.cell 2 _ rfl
 have cC0_3 := VC0.cell 3 _ rfl
 have yC0_0 := VC0.frozen 0
 have yC0_1 := VC0.frozen 1
 have yC0_2 := VC0.frozen 2
 have yC0_3 := VC0.frozen 3
 have VA0 := Lib.hid VA0
 have VB0 := Lib.hid VB0
 have VC0 := Lib.hid VC0
 clear b0
 go_wp2_with fail
 refine (Calls.mono (CP1.out _ (by repeat (first | with_reducible exact B0 | with_reducible exact Below.refl _ _ | refine Below.setCell ?_ (by first | omega | (simp; done) | (simp; omega)) _ | refine Below.alloc ?_ (by first | omega | (simp; done) | (simp; omega)) _)))) ?_
 rintro e w1 ⟨D3, rfl, o1, b1⟩
 have B1 : Below w.heap.size w w1 := below_step (by repeat (first | with_reducible exact B0 | with_reducible exact Below.refl _ _ | refine Below.setCell ?_ (by first | omega | (simp; done) | (simp; omega)) _ | refine Below.alloc ?_ (by first | omega | (simp; done) | (simp; omega)) _)) b1
 have hz1 := b1.size
 simp only [World.size_setCell] at hz1 o1
 have VA1 := ((VA0.out.other (p := ⟨w.heap.size + 1 + 1, 1, none⟩) (by first | omega | (simp; done) | (simp; omega)) (Value.slice D1 x1.length x1.length)).other (p := ⟨w.heap.size + 1 + 1, 2, none⟩) (by first | omega | (simp; done) | (simp; omega)) (Value.bool z2)).below b1
 have VB1 := ((VB0.out.other (p := ⟨w.heap.size + 1 + 1, 1, none⟩) (by first | omega | (simp; done) | (simp; omega)) (Value.slice D1 x1.length x1.length)).other (p := ⟨w.heap.size + 1 + 1, 2, none⟩) (by first | omega | (simp; done) | (simp; omega)) (Value.bool z2)).below b1
 have VC1 : Lvar w1 (w.heap.size + 1 + 1) #[Value.string z0, Value.slice D1 x1.length x1.length, Value.bool z2, Value.slice none 0 0] := ((VC0.out.set 1 (Value.slice D1 x1.length x1.length)).set 2 (Value.bool z2)).below b1
 have o0 := OwnR.below (OwnR.keep o0 (show Mod w.heap.size (w.heap.size + 3) w0 _ from (by repeat (first | with_reducible exact Mod.refl _ _ _ | refine Mod.trans ?_ (Mod.set _ (by first | omega | (simp; done) | (simp; omega)) (by first | omega | (simp; done) | (simp; omega)) _)))) (Or.inr (by omega))) b1
 clear cA0_0 cA0_1 cA0_2 cA0_3 cB0_0 cB0_1 cB0_2 cB0_3 yB0_0 yB0_1 yB0_2 yB0_3 cC0_0 cC0_1 cC0_2 cC0_3 yC0_0 yC0_1 yC0_2 yC0_3
 have cA1_0 := VA1.cell 0 _ rfl
 have cA1_1 := VA1.cell 1 _ rfl
 have cA1_2 := VA1.cell 2 _ rfl
 have cA1_3 := VA1.cell 3 _ rfl
 have cB1_0 := VB1.cell 0 _ rfl
 have cB1_1 := VB1.cell 1 _ rfl
 have cB1_2 := VB1.cell 2 _ rfl
 have cB1_3 := VB1.cell 3 _ rfl
 have yB1_0 := VB1.frozen 0
 have yB1_1 := VB1.frozen 1
 have yB1_2 := VB1.frozen 2
 have yB1_3 := VB1.frozen 3
 have cC1_0 := VC1.cell 0 _ rfl
 have cC1_1 := VC1.cell 1 _ rfl
 have cC1_2 := VC1.cell 2 _ rfl
 have cC1_3 := VC1.cell 3 _ rfl
 have yC1_0 := VC1.frozen 0
 have yC1_1 := VC1.frozen 1
 have yC1_2 := VC1.frozen 2
 have yC1_3 := VC1.frozen 3
 have VA1 := Lib.hid VA1
 have VB1 := Lib.hid VB1
 have VC1 := Lib.hid VC1
 clear VA0 VB0 VC0
 clear b1
 go_wp2_with fail
 obtain ⟨T9, hT9⟩ := (show Lvar _ (w.heap.size + 1) #[Value.string z0, Value.slice D1 x1.length x1.length, Value.bool z2, Value.slice D3 x3.length x3.length] from (((((VB1.out.other (p := ⟨w.heap.size + 1 + 1, 3, none⟩) (by first | omega | (simp; done) | (simp; omega)) (Value.slice D3 x3.length x3.length)).set 0 (Value.string z0)).set 1 (Value.slice D1 x1.length x1.length)).set 2 (Value.bool z2)).set 3 (Value.slice D3 x3.length x3.length)))
 obtain ⟨i9, hi9, _, hs9, _⟩ := info_parts infoFunction
 refine bodyPost_ret (results_cell_row rfl _ _ (w.heap.size + 1) T9 #[.string z0, .slice D1 x1.length x1.length, .bool z2, .slice D3 x3.length x3.length] _ _ rfl hT9 Tryz.underlying98 rfl (by rw [hi9, Option.map_some, hs9]; rfl)) rfl ?_
 have key : ∀ {u : World}, Mod w.heap.size (w.heap.size + 3) w1 u → OwnR fn w.heap.size u.heap.size u [.string z0, .slice D1 x1.length x1.length, .bool z2, .slice D3 x3.length x3.length] (z0, x1, z2, x3) ∧ Below w.heap.size w u := fun {u} hm => by
  have hs := hm.size
  have o0 := OwnR.keep o0 hm (Or.inr (by omega))
  have o1 := OwnR.keep o1 hm (Or.inr (by omega))
  exact ⟨(OwnR.prod (mid := w.heap.size) (OwnR.str (by omega) z0) (OwnR.prod (mid := w0.heap.size) (o0.wider (lo' := w.heap.size) (hi' := w0.heap.size) (by omega) (by omega) (by omega)) (OwnR.prod (mid := w0.heap.size) (OwnR.bool (by omega) z2) (o1.wider (by omega) (by omega) (Nat.le_refl _)) (by omega) (by omega)) (by omega) (by omega)) (by omega) (by omega)), below_mod B1 hm (Nat.le_refl _) B1.size⟩
 refine ⟨D1, D3, rfl, key ?_⟩
 repeat (first | with_reducible exact Mod.refl _ _ _ | refine Mod.trans ?_ (Mod.set _ (by first | omega | (simp; done) | (simp; omega)) (by first | omega | (simp; done) | (simp; omega)) _))
set_option maxHeartbeats 4000000 in
set_option maxRecDepth 100000 in
theorem sizeFunctionU (q1 : Bool) (f1 : List Nat) (q3 : Bool) (f3 : List Nat) (z0 : ByteArray) (A1 : Option Addr) (c1 : Nat) (x1 : List ByteArray) (z2 : Bool) (A3 : Option Addr) (c3 : Nat) (x3 : List (Int × List Int)) (L : Nat) (w : World) (h1 : (Rep.slice Rep.str).rep q1 w f1 [.slice A1 x1.length c1] x1) (h3 : (Rep.slice lin).rep q3 w f3 [.slice A3 x3.length c3] x3) (hL : L ≤ 1000000000) (hs : WfFunctionU (z0, x1, z2, x3)) :
  Calls Tryz.prog 105 #[.agg #[.string z0, .slice A1 x1.length c1, .bool z2, .slice A3 x3.length c3], .int .i64 L] w fun e w' => e = .returned (.int .i64 (IntK.leftOf L (szFunctionU (z0, x1, z2, x3)))) ∧ Below w.heap.size w w' := by
 simp only [WfFunctionU] at hs
 obtain ⟨hs0, hs1a, hs1b, hs2, hs3a, hs3b⟩ := hs
 have B0 := Lib.hid ((Below.refl w.heap.size w).alloc (Nat.le_refl _) (Obj.cells #[Value.string z0, Value.slice A1 x1.length c1, Value.bool z2, Value.slice A3 x3.length c3] 137))
 have V0 := Lib.hid (Lvar.new w #[Value.string z0, Value.slice A1 x1.length c1, Value.bool z2, Value.slice A3 x3.length c3] 137)
 by_cases g0 : z0.size ≤ L
 ·obtain ⟨m0, hm0⟩ : ∃ m : Nat, m = L - z0.size := ⟨_, rfl⟩
  have hq0 : (L : Int) - (z0.size : Int) = (m0 : Int) := by omega
  have hd0 : decide ((m0 : Int) < 0) = false := decide_eq_false (by omega)
  have HM0 := Lib.hid (show m0 + z0.size = L by omega)
  have hL0 : m0 ≤ 1000000000 := by omega
  clear g0 hm0
  have SZ1 := fun W (h : Below w.heap.size w W) => sizeStringSU q1 f1 A1 c1 m0 x1 W (Rep.below h1 h) (by omega) hs1a hs1b
  unfold IntK.leftOf at SZ1
  by_cases g1 : (x1.length + szs szStr x1) ≤ m0
  ·obtain ⟨m1, hm1⟩ : ∃ m : Nat, m = m0 - (x1.length + szs szStr x1) := ⟨_, rfl⟩
   simp only [if_pos g1, show ((m0 : Nat) : Int) - (((x1.length + szs szStr x1) : Nat) : Int) = (m1 : Int) by omega] at SZ1
   have hd1 : decide ((m1 : Int) < 0) = false := decide_eq_false (by omega)
   have HM1 := Lib.hid (show m1 + (x1.length + szs szStr x1) = m0 by omega)
   have SZ1 := Lib.hid SZ1
   have hL1 : m1 ≤ 1000000000 := by omega
   clear g1 hm1
   have SZ2 := fun W (h : Below w.heap.size w W) => sizeLinSU q3 f3 A3 c3 m1 x3 W (Rep.below h3 h) (by omega) hs3a hs3b
   unfold IntK.leftOf at SZ2
   by_cases g2 : (x3.length + szs szLin x3) ≤ m1
   ·obtain ⟨m2, hm2⟩ : ∃ m : Nat, m = m1 - (x3.length + szs szLin x3) := ⟨_, rfl⟩
    simp only [if_pos g2, show ((m1 : Nat) : Int) - (((x3.length + szs szLin x3) : Nat) : Int) = (m2 : Int) by omega] at SZ2
    have hd2 : decide ((m2 : Int) < 0) = false := decide_eq_false (by omega)
    have HM2 := Lib.hid (show m2 + (x3.length + szs szLin x3) = m1 by omega)
    have SZ2 := Lib.hid SZ2
    have hL2 : m2 ≤ 1000000000 := by omega
    clear g2 hm2
    have HR := Lib.hid (show IntK.leftOf L (szFunctionU (z0, x1, z2, x3)) = (m2 : Int) by simp only [szFunctionU]; unfold IntK.leftOf; have := HM0.out; have := HM1.out; have := HM2.out; rw [if_pos (by omega)]; omega)
    clear hs1a hs1b hs2 hs3a hs3b h1 h3
    go_enter Tryz.func105, Tryz.ntmps105
    go_wp2_with fail
    refine (Calls.mono (SZ1.out _ B0.out)) ?_
    rintro e w1 ⟨rfl, b1⟩
    have B1 := Lib.hid (below_step B0.out b1)
    have V1 := Lib.hid (V0.out.below b1)
    clear b1
    have v1_0 := V1.out.cell 0 _ rfl
    have v1_1 := V1.out.cell 1 _ rfl
    have v1_2 := V1.out.cell 2 _ rfl
    have v1_3 := V1.out.cell 3 _ rfl
    go_wp2_with fail
    refine (Calls.mono (SZ2.out _ B1.out)) ?_
    rintro e w2 ⟨rfl, b2⟩
    have B2 := Lib.hid (below_step B1.out b2)
    have V2 := Lib.hid (V1.out.below b2)
    clear b2
    have v2_0 := V2.out.cell 0 _ rfl
    have v2_1 := V2.out.cell 1 _ rfl
    have v2_2 := V2.out.cell 2 _ rfl
    have v2_3 := V2.out.cell 3 _ rfl
    clear v1_0 v1_1 v1_2 v1_3
    go_wp2
    go_ret
    exact ⟨by rw [HR.out]; rfl, B2.out⟩
   ·have HM := Lib.hid g2
    simp only [if_neg g2] at SZ2
    have SZ2 := Lib.hid SZ2
    clear g2
    have HR := Lib.hid (show IntK.leftOf L (szFunctionU (z0, x1, z2, x3)) = -1 by simp only [szFunctionU]; unfold IntK.leftOf; have := HM0.out; have := HM1.out; have := HM.out; rw [if_neg (by omega)])
    clear hs1a hs1b hs2 hs3a hs3b h1 h3
    go_enter Tryz.func105, Tryz.ntmps105
    go_wp2_with fail
    refine (Calls.mono (SZ1.out _ B0.out)) ?_
    rintro e w1 ⟨rfl, b1⟩
    have B1 := Lib.hid (below_step B0.out b1)
    have V1 := Lib.hid (V0.out.below b1)
    clear b1
    have v1_0 := V1.out.cell 0 _ rfl
    have v1_1 := V1.out.cell 1 _ rfl
    have v1_2 := V1.out.cell 2 _ rfl
    have v1_3 := V1.out.cell 3 _ rfl
    go_wp2_with fail
    refine (Calls.mono (SZ2.out _ B1.out)) ?_
    rintro e w2 ⟨rfl, b2⟩
    have B2 := Lib.hid (below_step B1.out b2)
    have V2 := Lib.hid (V1.out.below b2)
    clear b2
    have v2_0 := V2.out.cell 0 _ rfl
    have v2_1 := V2.out.cell 1 _ rfl
    have v2_2 := V2.out.cell 2 _ rfl
    have v2_3 := V2.out.cell 3 _ rfl
    clear v1_0 v1_1 v1_2 v1_3
    go_wp2
    go_ret
    exact ⟨by rw [HR.out]; rfl, B2.out⟩
  ·have HM := Lib.hid g1
   simp only [if_neg g1] at SZ1
   have SZ1 := Lib.hid SZ1
   clear g1
   have HR := Lib.hid (show IntK.leftOf L (szFunctionU (z0, x1, z2, x3)) = -1 by simp only [szFunctionU]; unfold IntK.leftOf; have := HM0.out; have := HM.out; rw [if_neg (by omega)])
   clear hs1a hs1b hs2 hs3a hs3b h1 h3
   go_enter Tryz.func105, Tryz.ntmps105
   go_wp2_with fail
   refine (Calls.mono (SZ1.out _ B0.out)) ?_
   rintro e w1 ⟨rfl, b1⟩
   have B1 := Lib.hid (below_step B0.out b1)
   have V1 := Lib.hid (V0.out.below b1)
   clear b1
   have v1_0 := V1.out.cell 0 _ rfl
   have v1_1 := V1.out.cell 1 _ rfl
   have v1_2 := V1.out.cell 2 _ rfl
   have v1_3 := V1.out.cell 3 _ rfl
   go_wp2
   go_ret
   exact ⟨by rw [HR.out]; rfl, B1.out⟩
 ·have HM := Lib.hid g0
  have hd0 : decide ((L : Int) - (z0.size : Int) < 0) = true := decide_eq_true (by omega)
  clear g0
  have HR := Lib.hid (show IntK.leftOf L (szFunctionU (z0, x1, z2, x3)) = -1 by simp only [szFunctionU]; unfold IntK.leftOf; have := HM.out; rw [if_neg (by omega)])
  clear hs1a hs1b hs2 hs3a hs3b h1 h3
  go_enter Tryz.func105, Tryz.ntmps105
  go_wp2
  go_ret
  exact ⟨by rw [HR.out]; rfl, B0.out⟩
set_option maxHeartbeats 4000000 in
set_option maxRecDepth 100000 in
theorem eqFunctionU (q1 p1 : Bool) (f1 g1 : List Nat) (q3 p3 : Bool) (f3 g3 : List Nat) (z0 : ByteArray) (A1 : Option Addr) (c1 : Nat) (x1 : List ByteArray) (z2 : Bool) (A3 : Option Addr) (c3 : Nat) (x3 : List (Int × List Int)) (B1 : Option Addr) (d1 : Nat) (B3 : Option Addr) (d3 : Nat) (w : World) (h1 : (Rep.slice Rep.str).rep q1 w f1 [.slice A1 x1.length c1] x1) (h3 : (Rep.slice lin).rep q3 w f3 [.slice A3 x3.length c3] x3) (k1 : (Rep.slice Rep.str).rep p1 w g1 [.slice B1 x1.length d1] x1) (k3 : (Rep.slice lin).rep p3 w g3 [.slice B3 x3.length d3] x3) (hl : szFunctionU (z0, x1, z2, x3) ≤ 100000000) :
  Calls Tryz.prog 109 #[.agg #[.string z0, .slice A1 x1.length c1, .bool z2, .slice A3 x3.length c3], .agg #[.string z0, .slice B1 x1.length d1, .bool z2, .slice B3 x3.length d3]] w fun e w' => e = .returned (.bool true) ∧ Below w.heap.size w w' := by
 simp only [szFunctionU] at hl
 have EQ0 := Lib.hid (fun W (h : Below w.heap.size w W) => eqStringSU q1 p1 f1 g1 A1 B1 c1 d1 x1 W (Rep.below h1 h) (Rep.below k1 h) (by omega))
 have EQ1 := Lib.hid (fun W (h : Below w.heap.size w W) => eqLinSU q3 p3 f3 g3 A3 B3 c3 d3 x3 W (Rep.below h3 h) (Rep.below k3 h) (by omega))
 have BB0 := Lib.hid (((Below.refl w.heap.size w).alloc (Nat.le_refl _) (Obj.cells #[Value.string z0, Value.slice A1 x1.length c1, Value.bool z2, Value.slice A3 x3.length c3] 98)).alloc (by simp) (Obj.cells #[Value.string z0, Value.slice B1 x1.length d1, Value.bool z2, Value.slice B3 x3.length d3] 98))
 have V0 := Lib.hid ((Lvar.new w #[Value.string z0, Value.slice A1 x1.length c1, Value.bool z2, Value.slice A3 x3.length c3] 98).alloc (Obj.cells #[Value.string z0, Value.slice B1 x1.length d1, Value.bool z2, Value.slice B3 x3.length d3] 98))
 have U0 := Lib.hid (Lvar.new (w.alloc (Obj.cells #[Value.string z0, Value.slice A1 x1.length c1, Value.bool z2, Value.slice A3 x3.length c3] 98)) #[Value.string z0, Value.slice B1 x1.length d1, Value.bool z2, Value.slice B3 x3.length d3] 98)
 simp only [World.size_alloc] at U0
 clear hl h1 k1 h3 k3
 go_enter Tryz.func109, Tryz.ntmps109
 go_wp2_with fail
 refine (Calls.mono (EQ0.out _ ?_)) ?_
 ·first | exact BB0.out | exact BB0.out.drew | exact below_drewN BB0.out _
 rintro e w1 ⟨rfl, b1⟩
 have BB1 := Lib.hid (show Below w.heap.size w w1 from by first | exact BB0.out.trans (b1.mono BB0.out.size) | exact BB0.out.drew.trans (b1.mono BB0.out.size) | exact (below_drewN BB0.out _).trans (b1.mono BB0.out.size))
 have V1 := Lib.hid (show Lvar w1 _ _ from by first | exact V0.out.below b1 | exact (V0.out.below (Below.refl _ _).drew).below b1)
 have v1_0 := V1.out.cell 0 _ rfl
 have v1_1 := V1.out.cell 1 _ rfl
 have v1_2 := V1.out.cell 2 _ rfl
 have v1_3 := V1.out.cell 3 _ rfl
 have U1 := Lib.hid (show Lvar w1 _ _ from by first | exact U0.out.below b1 | exact (U0.out.below (Below.refl _ _).drew).below b1)
 have u1_0 := U1.out.cell 0 _ rfl
 have u1_1 := U1.out.cell 1 _ rfl
 have u1_2 := U1.out.cell 2 _ rfl
 have u1_3 := U1.out.cell 3 _ rfl
 clear b1
 go_wp2_with fail
 refine (Calls.mono (EQ1.out _ ?_)) ?_
 ·first | exact BB1.out | exact BB1.out.drew | exact below_drewN BB1.out _
 rintro e w2 ⟨rfl, b2⟩
 have BB2 := Lib.hid (show Below w.heap.size w w2 from by first | exact BB1.out.trans (b2.mono BB1.out.size) | exact BB1.out.drew.trans (b2.mono BB1.out.size) | exact (below_drewN BB1.out _).trans (b2.mono BB1.out.size))
 have V2 := Lib.hid (show Lvar w2 _ _ from by first | exact V1.out.below b2 | exact (V1.out.below (Below.refl _ _).drew).below b2)
 have v2_0 := V2.out.cell 0 _ rfl
 have v2_1 := V2.out.cell 1 _ rfl
 have v2_2 := V2.out.cell 2 _ rfl
 have v2_3 := V2.out.cell 3 _ rfl
 clear v1_0 v1_1 v1_2 v1_3
 have U2 := Lib.hid (show Lvar w2 _ _ from by first | exact U1.out.below b2 | exact (U1.out.below (Below.refl _ _).drew).below b2)
 have u2_0 := U2.out.cell 0 _ rfl
 have u2_1 := U2.out.cell 1 _ rfl
 have u2_2 := U2.out.cell 2 _ rfl
 have u2_3 := U2.out.cell 3 _ rfl
 clear u1_0 u1_1 u1_2 u1_3
 clear b2
 go_wp2
 go_ret
 exact ⟨rfl, BB2.out⟩
theorem run_mkFunctionU (n : Nat) (hn : n ≤ 100000000000) (u : World) : (Instr.makeSlice 24 (.int .i64 (n : Int)) (.int .i64 (n : Int))).run Tryz.prog u =
  .ok (.slice (some ⟨u.heap.size, 0, none⟩) n n) (u.alloc (.cells (madeCells #[.string ByteArray.empty, .slice none 0 0, .bool false, .slice none 0 0] (n * 4)) 98)) := by
 obtain ⟨i0, hi, hz0, hz1, hz2⟩ := info_parts infoFunction
 have h := run_make (P := Tryz.prog) u 24 98 i0 (.agg #[.string ByteArray.empty, .slice none 0 0, .bool false, .slice none 0 0]) Tryz.underlying24 hi hz0 .i64 .i64 (n : Int) (n : Int) (by omega) (Int.le_refl _) (by rw [hz2]; omega) (by omega)
 simpa [hz1, Value.cells] using h
set_option maxHeartbeats 4000000 in
set_option maxRecDepth 100000 in
theorem copyFunctionSU (q : Bool) (fp : List Nat) (A : Option Addr) (c : Nat) (xs : List FunctionT) (w : World) (hA : (Rep.slice fn).rep q w fp [.slice A xs.length c] xs) (hl : xs.length + szs szFunctionU xs ≤ 100000000) :
  Calls Tryz.prog 68 #[.slice A xs.length c] w (CopiedU fn w xs) := by
 have hxl : xs.length ≤ 100000000 := by omega
 have hmk := run_mkFunctionU xs.length (by omega)
 have HZ := Lib.hid (Filling.made (r := fn) (e := 98) (z := zeroFunction) (ok := fun b => w.heap.size ≤ b) w (madeCells #[.string ByteArray.empty, .slice none 0 0, .bool false, .slice none 0 0] (xs.length * 4)) (made_gen [.string ByteArray.empty, .slice none 0 0, .bool false, .slice none 0 0] ((ByteArray.empty, [], false, []) : FunctionT) (by simp) xs.length) (Nat.le_refl _))
 have HB0 := Lib.hid ((Below.refl w.heap.size w).alloc (Nat.le_refl _) (Obj.cells (madeCells #[.string ByteArray.empty, .slice none 0 0, .bool false, .slice none 0 0] (xs.length * 4)) 98))
 have HL := Lib.hid hl
 have HA := Lib.hid hA
 clear hl hA
 go_enter Tryz.func68, Tryz.ntmps68
 go_wp2
 go_loopw [4] (fun i wr => ∃ k : Nat, k ≤ xs.length ∧ i = .int .i64 k ∧ Filling fn 98 zeroFunction (fun b => w.heap.size ≤ b) wr w.heap.size xs.length (xs.take k) ∧ Below w.heap.size w wr) (fun i _ => xs.length - (intOf i).toNat)
 case atStart => exact ⟨0, Nat.zero_le _, rfl, HZ.out, HB0.out⟩
 case round =>
  obtain ⟨k, hk, rfl, hS, hb⟩ := hrel
  have HS := Lib.hid hS
  have HB := Lib.hid hb
  clear hS hb
  by_cases hlt : k < xs.length
  ·obtain ⟨b, o, A1, c1, f1, A3, c3, f3, rfl, hbb, g0, g1, g2, g3, t1, t3⟩ := fns_at (Rep.below HA.out HB.out) hlt
   have htl : (xs.take k).length = k := by rw [List.length_take]; omega
   have hk' : (xs.take k).length < xs.length := by rw [htl]; exact hlt
   obtain ⟨p0, y0⟩ := HS.out.cell (j := 0) (u := .string ByteArray.empty) rfl hk' (by decide) rfl
   have p0 : wr.cell? ⟨w.heap.size, (xs.take k).length * 4, none⟩ = some (.string ByteArray.empty) := p0
   have y0 : wr.frozen? ⟨w.heap.size, (xs.take k).length * 4, none⟩ = false := y0
   obtain ⟨p1, y1⟩ := HS.out.cell (j := 1) (u := .slice none 0 0) rfl hk' (by decide) rfl
   have p1 : wr.cell? ⟨w.heap.size, (xs.take k).length * 4 + 1, none⟩ = some (.slice none 0 0) := p1
   have y1 : wr.frozen? ⟨w.heap.size, (xs.take k).length * 4 + 1, none⟩ = false := y1
   obtain ⟨p2, y2⟩ := HS.out.cell (j := 2) (u := .bool false) rfl hk' (by decide) rfl
   have p2 : wr.cell? ⟨w.heap.size, (xs.take k).length * 4 + 2, none⟩ = some (.bool false) := p2
   have y2 : wr.frozen? ⟨w.heap.size, (xs.take k).length * 4 + 2, none⟩ = false := y2
   obtain ⟨p3, y3⟩ := HS.out.cell (j := 3) (u := .slice none 0 0) rfl hk' (by decide) rfl
   have p3 : wr.cell? ⟨w.heap.size, (xs.take k).length * 4 + 3, none⟩ = some (.slice none 0 0) := p3
   have y3 : wr.frozen? ⟨w.heap.size, (xs.take k).length * 4 + 3, none⟩ = false := y3
   rw [htl] at p0 y0 p1 y1 p2 y2 p3 y3
   have hz := HS.out.lt
   have HT := Lib.hid (take_snoc hlt)
   have HTL := Lib.hid htl
   have hs9 : szFunctionU xs[k] ≤ 100000000 := by
    have := HL.out
    have := szs_mem (sz := szFunctionU) (List.getElem_mem hlt)
    omega
   clear htl hk'
   generalize xs[k] = x at *
   obtain ⟨z0, x1, z2, x3⟩ := x
   simp only at g0 g1 g2 g3 t1 t3
   have CP := Lib.hid (copyFunctionU _ f1 _ f3 z0 A1 c1 x1 z2 A3 c3 x3 wr t1 t3 hs9)
   have hi0 : (0 : Int) ≤ (k : Int) := by omega
   have hi1 : (k : Int) < (xs.length : Int) := by omega
   go_wp2_with fail
   refine (Calls.mono CP.out) ?_
   rintro e w1 ⟨D1, D3, rfl, ⟨_, fG, k1, k2, k3⟩, b1⟩
   have HW := Lib.hid b1
   have hS2 := Filling.snoc (m := wr.heap.size) HS.out rfl (by rw [HTL.out]; exact hlt) b1 (Nat.le_refl _) k1 k2 (fun b hb => (k3 b hb).1) (fun b hb => Nat.le_trans HB.out.size hb)
   rw [HTL.out, ← HT.out] at hS2
   have HS2 := Lib.hid (show Filling fn 98 zeroFunction (fun b => w.heap.size ≤ b) ((((w1.setCell ⟨w.heap.size, k * 4, none⟩ (.string z0)).setCell ⟨w.heap.size, k * 4 + 1, none⟩ (.slice D1 x1.length x1.length)).setCell ⟨w.heap.size, k * 4 + 2, none⟩ (.bool z2)).setCell ⟨w.heap.size, k * 4 + 3, none⟩ (.slice D3 x3.length x3.length)) w.heap.size xs.length (xs.take (k + 1)) from hS2)
   have HB2 := Lib.hid (((((HB.out.trans (b1.mono HB.out.size)).setCell (p := ⟨w.heap.size, k * 4, none⟩) (Nat.le_refl _) (.string z0)).setCell (p := ⟨w.heap.size, k * 4 + 1, none⟩) (Nat.le_refl _) (.slice D1 x1.length x1.length)).setCell (p := ⟨w.heap.size, k * 4 + 2, none⟩) (Nat.le_refl _) (.bool z2)).setCell (p := ⟨w.heap.size, k * 4 + 3, none⟩) (Nat.le_refl _) (.slice D3 x3.length x3.length))
   have p0' := (b1.cell (p := ⟨w.heap.size, k * 4, none⟩) hz).trans p0
   have y0' := (b1.frozen (p := ⟨w.heap.size, k * 4, none⟩) hz).trans y0
   have p1' := (b1.cell (p := ⟨w.heap.size, k * 4 + 1, none⟩) hz).trans p1
   have y1' := (b1.frozen (p := ⟨w.heap.size, k * 4 + 1, none⟩) hz).trans y1
   have p2' := (b1.cell (p := ⟨w.heap.size, k * 4 + 2, none⟩) hz).trans p2
   have y2' := (b1.frozen (p := ⟨w.heap.size, k * 4 + 2, none⟩) hz).trans y2
   have p3' := (b1.cell (p := ⟨w.heap.size, k * 4 + 3, none⟩) hz).trans p3
   have y3' := (b1.frozen (p := ⟨w.heap.size, k * 4 + 3, none⟩) hz).trans y3
   clear hS2 b1 k1 k2 k3 p0 y0 g0 p1 y1 g1 p2 y2 g2 p3 y3 g3
   go_wp2
   go_roundw
   case rel => exact ⟨k + 1, by omega, by go_num, HS2.out, HB2.out⟩
   case measure => simp [intOf]; omega
  ·obtain rfl : k = xs.length := by omega
   have hS := HS.out
   rw [List.take_length] at hS
   obtain ⟨A2, c2, fp2, h1, h2, h3, h4⟩ := (hS.done (by unfold maxLen; have := HL.out; omega)).rep (by decide)
   injection h1 with h1 _ h5
   subst h1; subst h5
   have HN := Lib.hid (show New (Rep.slice fn) w xs wr [.slice (some ⟨w.heap.size, 0, none⟩) xs.length xs.length] from ⟨fp2, h2, h3, h4⟩)
   clear hS HS h2 h3 h4
   go_wp2
   go_ret
   exact ⟨_, rfl, OwnR.of_new HN.out, HB.out⟩

def SzFunctionU (w : World) (xs : List FunctionT) (m : Nat) (x i : Value) (wr : World) : Prop :=
 ∃ k l : Nat, k ≤ xs.length ∧ i = .int .i64 k ∧ x = .int .i64 l ∧ l + szs szFunctionU (xs.take k) + xs.length = m ∧ Below w.heap.size w wr
set_option maxHeartbeats 4000000 in
set_option maxRecDepth 100000 in
theorem sizeFunctionSU (q : Bool) (fp : List Nat) (A : Option Addr) (c L : Nat) (xs : List FunctionT) (w : World) (hA : (Rep.slice fn).rep q w fp [.slice A xs.length c] xs) (hL : L ≤ 1000000000) (hl : xs.length ≤ 9223372036854775807) (hs : ∀ x ∈ xs, WfFunctionU x) :
  Calls Tryz.prog 66 #[.slice A xs.length c, .int .i64 L] w fun e w' => e = .returned (.int .i64 (IntK.leftOf L (xs.length + szs szFunctionU xs))) ∧ Below w.heap.size w w' := by
 have HS := Lib.hid hs
 by_cases h0 : xs.length ≤ L
 ·have hlt0 : decide ((L : Int) - (xs.length : Int) < 0) = false := decide_eq_false (by omega)
  have hx9 : xs.length ≤ 1000000000 := by omega
  clear hs
  go_enter Tryz.func66, Tryz.ntmps66
  go_wp2
  go_loopw [1, 5] (fun x i wr => SzFunctionU w xs L x i wr) (fun _ i _ => xs.length - (intOf i).toNat)
  case atStart => exact ⟨0, L - xs.length, Nat.zero_le _, rfl, congrArg (Value.int .i64) (by omega), by simp [szs]; omega, Below.refl _ _⟩
  case round =>
   obtain ⟨k, l, hk, rfl, rfl, hsum, hb⟩ := hrel
   by_cases hlt : k < xs.length
   ·obtain ⟨b, o, A1, c1, f1, A3, c3, f3, rfl, hbb, g0, g1, g2, g3, t1, t3⟩ := fns_at (Rep.below hA hb) hlt
    have hxs := HS.out _ (List.getElem_mem hlt)
    have hts := szs_step (sz := szFunctionU) hlt
    have hle := szs_take (sz := szFunctionU) xs (k + 1)
    generalize xs[k] = x at *
    obtain ⟨z0, x1, z2, x3⟩ := x
    simp only at g0 g1 g2 g3 t1 t3
    obtain ⟨s0, hs0⟩ : ∃ s0 : Nat, s0 = szFunctionU (z0, x1, z2, x3) := ⟨_, rfl⟩
    have SZ := Lib.hid (sizeFunctionU _ f1 _ f3 z0 A1 c1 x1 z2 A3 c3 x3 l wr t1 t3 (by omega) hxs)
    rw [← hs0] at SZ hts
    have HT := Lib.hid hts
    have HE := Lib.hid hle
    have HM := Lib.hid hsum
    unfold IntK.leftOf at SZ
    clear hts hle hsum hxs hs0
    by_cases hc : s0 ≤ l
    ·rw [if_pos hc] at SZ
     obtain ⟨l', rfl⟩ : ∃ l', l = s0 + l' := ⟨l - s0, by omega⟩
     rw [show ((s0 + l' : Nat) : Int) - ((s0 : Nat) : Int) = (l' : Int) by omega] at SZ
     have hl0 : decide ((l' : Int) < 0) = false := decide_eq_false (by omega)
     clear hc
     go_wp2_with fail
     refine (Calls.mono SZ.out) ?_
     rintro e w1 ⟨rfl, b1⟩
     have B1 := Lib.hid (hb.trans (b1.mono hb.size))
     clear b1
     go_wp2
     go_roundw
     case rel => exact ⟨k + 1, l', by omega, by go_num, rfl, by have := HM.out; have := HT.out; omega, B1.out⟩
     case measure => simp [intOf]; omega
    ·rw [if_neg hc] at SZ
     have HR := Lib.hid (show IntK.leftOf L (xs.length + szs szFunctionU xs) = -1 from if_neg (by have := HM.out; have := HT.out; have := HE.out; omega))
     clear hc
     go_wp2_with fail
     refine (Calls.mono SZ.out) ?_
     rintro e w1 ⟨rfl, b1⟩
     have B1 := Lib.hid (hb.trans (b1.mono hb.size))
     clear b1
     go_wp2
     go_ret
     exact ⟨by rw [HR.out]; rfl, B1.out⟩
   ·obtain rfl : k = xs.length := by omega
    rw [List.take_length] at hsum
    have HR := Lib.hid (show IntK.leftOf L (xs.length + szs szFunctionU xs) = (l : Int) by
     unfold IntK.leftOf
     rw [if_pos (by omega)]
     omega)
    clear hsum
    go_wp2
    go_ret
    exact ⟨by rw [HR.out]; rfl, hb⟩
 ·have HR := Lib.hid (show IntK.leftOf L (xs.length + szs szFunctionU xs) = -1 from if_neg (by omega))
  have hlt0 : decide ((L : Int) - (xs.length : Int) < 0) = true := decide_eq_true (by omega)
  clear hs
  go_enter Tryz.func66, Tryz.ntmps66
  go_wp2
  go_ret
  exact ⟨by rw [HR.out]; rfl, Below.refl _ _⟩

set_option maxHeartbeats 4000000 in
set_option maxRecDepth 100000 in
theorem eqFunctionSU (q q2 : Bool) (fp gp : List Nat) (A B : Option Addr) (c d : Nat) (xs : List FunctionT) (w : World) (hA : (Rep.slice fn).rep q w fp [.slice A xs.length c] xs) (hB : (Rep.slice fn).rep q2 w gp [.slice B xs.length d] xs) (hl : xs.length + szs szFunctionU xs ≤ 100000000) :
  Calls Tryz.prog 71 #[.slice A xs.length c, .slice B xs.length d] w fun e w' => e = .returned (.bool true) ∧ Below w.heap.size w w' := by
 have HL := Lib.hid hl
 clear hl
 have hxl : xs.length ≤ 1000000000 := by have := HL.out; omega
 go_enter Tryz.func71, Tryz.ntmps71
 go_wp2
 go_loopw [5] (fun i wr => ∃ k : Nat, k ≤ xs.length ∧ i = .int .i64 k ∧ Below w.heap.size w wr) (fun i _ => xs.length - (intOf i).toNat)
 case atStart => exact ⟨0, Nat.zero_le _, rfl, Below.refl _ _⟩
 case round =>
  obtain ⟨k, hk, rfl, hb⟩ := hrel
  by_cases hlt : k < xs.length
  ·obtain ⟨b, o, A1, c1, f1, A3, c3, f3, rfl, hbb, g0, g1, g2, g3, t1, t3⟩ := fns_at (Rep.below hA hb) hlt
   obtain ⟨b', o', A1', c1', f1', A3', c3', f3', rfl, hbb', g0', g1', g2', g3', t1', t3'⟩ := fns_at (Rep.below hB hb) hlt
   have hs9 : szFunctionU xs[k] ≤ 100000000 := by
    have := HL.out
    have := szs_mem (sz := szFunctionU) (List.getElem_mem hlt)
    omega
   generalize xs[k] = x at *
   obtain ⟨z0, x1, z2, x3⟩ := x
   simp only at g0 g0' g1 g1' g2 g2' g3 g3' t1 t1' t3 t3'
   have hd : Below wr.heap.size wr wr.drew := (Below.refl _ _).drew
   have EQ := Lib.hid (eqFunctionU _ _ f1 f1' _ _ f3 f3' z0 A1 c1 x1 z2 A3 c3 x3 A1' c1' A3' c3' wr.drew (Rep.below t1 hd) (Rep.below t3 hd) (Rep.below t1' hd) (Rep.below t3' hd) hs9)
   have hi0 : (0 : Int) ≤ (k : Int) := by omega
   have hi1 : (k : Int) < (xs.length : Int) := by omega
   clear hd
   go_wp2_with fail
   go_region_law (first
    | (go_simp; go_at_call 109; refine (Calls.mono EQ.out) ?_; rintro e w1 ⟨rfl, b1⟩))
   all_goals
    have B1' := Lib.hid (hb.trans (((Below.refl wr.heap.size wr).drew.trans b1).mono hb.size))
    clear b1
    go_wp2
    go_roundw
    case rel => exact ⟨k + 1, by omega, by go_num, B1'.out⟩
    case measure => simp [intOf]; omega
  ·go_wp2
   go_ret
   exact ⟨rfl, hb⟩

set_option maxHeartbeats 4000000 in
set_option maxRecDepth 100000 in
theorem markFunctionSU (fp : List Nat) (A : Option Addr) (c k0 : Nat) (xs : List FunctionT) (w : World) (hA : (Rep.slice fn).rep true w fp [.slice A xs.length c] xs) (hn : fp.Nodup) (h1 : 1 ≤ k0) (hk0 : k0 + 8 * (xs.length + szs szFunctionU xs) ≤ 1000000000) :
  Calls Tryz.prog 73 #[.slice A xs.length c, .int .i64 k0] w (MarkedU fn mkFunctionU nFunctionU fp w A c k0 xs) := by
 by_cases h0 : xs = []
 ·subst h0
  have F := Lib.hid (show MarkedU fn mkFunctionU nFunctionU fp w A c k0 [] (.returned (.int .i64 k0)) w from ⟨by simp [szs], hA, ModF.refl _ _⟩)
  clear hA
  go_enter Tryz.func73, Tryz.ntmps73
  go_wp2
  refine wp_loop_rounds 1 ?_
  rw [rounds_succ]
  go_wp2
  go_ret
  exact F.out
 ·have HK := Lib.hid hk0
  have hxl : xs.length ≤ 1000000000 := by omega
  have HK1 := Lib.hid h1
  have HNE := Lib.hid h0
  have HC := Lib.hid (show xs.length ≤ c by
   obtain ⟨_, _, e, h, _⟩ := hA
   injection e with e _
   injection e with _ _ e
   omega)
  have M0 := Lib.hid (marking_zero (mk := mkFunctionU) (sz := nFunctionU) k0 hA hn h0)
  clear hA hk0 h0 hn h1
  go_enter Tryz.func73, Tryz.ntmps73
  go_wp2
  go_loopw [1, 5] (fun x i wr => Marking fn mkFunctionU nFunctionU fp w xs A k0 x i wr) (fun _ i _ => xs.length - (intOf i).toNat)
  case atStart => exact M0.out
  case round =>
   obtain ⟨k, l, rfl, rfl, hk, hl0⟩ : ∃ k l : Nat, u5 = .int .i64 k ∧ u1 = .int .i64 l ∧ k ≤ xs.length ∧ l = k0 + szs nFunctionU (xs.take k) := by
    obtain ⟨k, l, _, _, _, _, h1, h2, h3, h4, _⟩ := hrel
    exact ⟨k, l, h2, h3, h1, h4⟩
   by_cases hlt : k < xs.length
   ·obtain ⟨b, o, f, cs, rfl, hbb, hre, hnd, hbf, hcc, hff, hnext⟩ := marking_at hrel hlt
    have hl9 : 1 ≤ l ∧ l + 8 * (1 + szFunctionU xs[k]) ≤ 1000000000 := by
     have h2 := szs_bound nFunctionU_le (xs.take k)
     have h3 := szs_step (sz := szFunctionU) hlt
     have h4 := szs_take (sz := szFunctionU) xs (k + 1)
     have h5 : (xs.take k).length = k := by rw [List.length_take]; omega
     have := HK.out
     have := HK1.out
     omega
    clear hl0
    have HNX := Lib.hid hnext
    have HBF := Lib.hid hbf
    obtain ⟨A1, c1, f1, A3, c3, f3, e9, rfl, r1, r3⟩ := fn_open hre
    have e9 := e9.symm
    subst e9
    have g0 := hcc 0 (by decide)
    have g1 := hcc 1 (by decide)
    have g2 := hcc 2 (by decide)
    have g3 := hcc 3 (by decide)
    simp only [show fn.n = 4 from rfl, Nat.add_zero, List.getElem?_cons_zero, List.getElem?_cons_succ] at g0 g1 g2 g3
    have hff : ∀ i, i < 4 → wr.frozen? ⟨b, o + k * 4 + i, none⟩ = false := hff
    have HFF := Lib.hid hff
    clear hnext hcc hff hre hrel
    generalize xs[k] = x at *
    obtain ⟨z0, x1, z2, x3⟩ := x
    simp only [szFunctionU] at hl9
    obtain ⟨hl1, hl9⟩ := hl9
    simp only at g0 g1 g2 g3 r1 r3
    have hb1 := szs_bound nStr_le x1
    have hb3 := szs_bound nLin_le x3
    simp only [List.mem_append, not_or] at hbf
    obtain ⟨hq1, hn3, pa1, pb1⟩ := apart2 hnd
    have hn1 := hq1
    have ap1_3 : ∀ b ∈ f1, b ∉ f3 := fun b hb => pa1 b (by simp [hb])
    have ap3_1 : ∀ b ∈ f3, b ∉ f1 := fun b hb h => pb1 b hb (by simp [h])
    clear hq1 pa1 pb1
    obtain ⟨nb1, nb3⟩ := hbf
    clear hnd
    have E0 := Lib.hid (Elem.start (fp := f1 ++ f3) (wr := wr) (b := b) (p := o + k * 4) (cs := [.string z0, .slice A1 x1.length c1, .bool z2, .slice A3 x3.length c3]) hbb (fun i v hi => by
     match i, hi with
     | 0, hi => injection hi with hi; subst hi; exact g0
     | 1, hi => injection hi with hi; subst hi; exact g1
     | 2, hi => injection hi with hi; subst hi; exact g2
     | 3, hi => injection hi with hi; subst hi; exact g3
     | j + 4, hi => simp at hi))
    have R0_1 := Lib.hid r1
    have R0_3 := Lib.hid r3
    clear r1 r3 hbb g0 g1 g2 g3
    have MT0 := fun W => StrK.markText (l) (by omega) (by omega) W
    have MT0 := Lib.hid MT0
    have MK1 := fun W (h : (Rep.slice Rep.str).rep true W f1 [.slice A1 x1.length c1] x1) => markStringSU f1 A1 c1 (l + 1) x1 W h hn1 (by omega) (by omega)
    obtain ⟨m1, hm1⟩ : ∃ m : Nat, m = l + 1 + szs nStr x1 := ⟨_, rfl⟩
    unfold MarkedU at MK1
    simp only [← hm1] at MK1
    rw [show ((l + 1 : Nat) : Int) = (l : Int) + 1 by omega] at MK1
    have MK1 := Lib.hid MK1
    have hmb2 : decide (Int.tmod ((m1 : Int)) 3 = 0) = mb (m1) := by rw [mb_eq, show ((m1 : Nat) : Int) = (m1 : Int) by omega]
    have MK3 := fun W (h : (Rep.slice lin).rep true W f3 [.slice A3 x3.length c3] x3) => markLinSU f3 A3 c3 (m1 + 1) x3 W h hn3 (by omega) (by omega)
    obtain ⟨m3, hm3⟩ : ∃ m : Nat, m = m1 + 1 + szs nLin x3 := ⟨_, rfl⟩
    unfold MarkedU at MK3
    simp only [← hm3] at MK3
    rw [show ((m1 + 1 : Nat) : Int) = (m1 : Int) + 1 by omega] at MK3
    have MK3 := Lib.hid MK3
    have HNAT := Lib.hid (show ((m3 : Nat) : Int) = (m3 : Int) by omega)
    have HM1 := Lib.hid hm1
    have hr1 : 0 ≤ m1 ∧ m1 ≤ 1000000000 := by omega
    have HM3 := Lib.hid hm3
    have hr3 : 0 ≤ m3 ∧ m3 ≤ 1000000000 := by omega
    have hr : l ≤ 1000000000 := by omega
    clear hl1 hl9 hm1 hb1 hm3 hb3
    have lt_0 := E0.out.lt
    have g0_0 := E0.out.cell 0 _ rfl
    have y0_0 := E0.out.free HFF.out (i := 0) (by simp)
    have g1_0 := E0.out.cell 1 _ rfl
    have y1_0 := E0.out.free HFF.out (i := 1) (by simp)
    have g2_0 := E0.out.cell 2 _ rfl
    have y2_0 := E0.out.free HFF.out (i := 2) (by simp)
    have g3_0 := E0.out.cell 3 _ rfl
    have y3_0 := E0.out.free HFF.out (i := 3) (by simp)
    simp only [Nat.add_zero] at g0_0 y0_0
    go_wp2_with fail
    refine (Calls.mono (MT0.out _)) ?_
    rintro e w1 ⟨rfl, d1⟩
    have E1 := Lib.hid (E0.out.below d1)
    have R1_1 := Lib.hid (Rep.below R0_1.out d1)
    have R1_3 := Lib.hid (Rep.below R0_3.out d1)
    clear d1 E0 R0_1 R0_3
    clear lt_0 g0_0 y0_0 g1_0 y1_0 g2_0 y2_0 g3_0 y3_0
    have lt_1 := E1.out.lt
    have g0_1 := E1.out.cell 0 _ rfl
    have y0_1 := E1.out.free HFF.out (i := 0) (by simp)
    have g1_1 := E1.out.cell 1 _ rfl
    have y1_1 := E1.out.free HFF.out (i := 1) (by simp)
    have g2_1 := E1.out.cell 2 _ rfl
    have y2_1 := E1.out.free HFF.out (i := 2) (by simp)
    have g3_1 := E1.out.cell 3 _ rfl
    have y3_1 := E1.out.free HFF.out (i := 3) (by simp)
    simp only [Nat.add_zero] at g0_1 y0_1
    have E2 := Lib.hid (show Elem b (o + k * 4) (f1 ++ f3) wr (w1.setCell ⟨b, o + k * 4, none⟩ (.string (StrK.mt (l)))) [.string (StrK.mt (l)), .slice A1 x1.length c1, .bool z2, .slice A3 x3.length c3] from E1.out.set (i := 0) (by simp) (.string (StrK.mt (l))))
    have R2_1 := Lib.hid (Rep.keepF R1_1.out (ModF.set w1 (p := ⟨b, o + k * 4, none⟩) (List.mem_singleton.2 rfl) (.string (StrK.mt (l)))) (fun x hx h9 => by rw [List.mem_singleton.1 h9] at hx; exact nb1 hx))
    have R2_3 := Lib.hid (Rep.keepF R1_3.out (ModF.set w1 (p := ⟨b, o + k * 4, none⟩) (List.mem_singleton.2 rfl) (.string (StrK.mt (l)))) (fun x hx h9 => by rw [List.mem_singleton.1 h9] at hx; exact nb3 hx))
    clear E1 R1_1 R1_3
    go_wp2_with fail
    refine (Calls.mono (MK1.out _ R2_1.out)) ?_
    rintro e w2 ⟨rfl, r1, d2⟩
    have E3 := Lib.hid (E2.out.mod d2 nb1 (fun x hx => by simp [hx]))
    have R3_1 := Lib.hid r1
    have R3_3 := Lib.hid (Rep.keepF R2_3.out d2 ap3_1)
    clear d2 r1 E2 R2_1 R2_3
    clear lt_1 g0_1 y0_1 g1_1 y1_1 g2_1 y2_1 g3_1 y3_1
    have lt_3 := E3.out.lt
    have g0_3 := E3.out.cell 0 _ rfl
    have y0_3 := E3.out.free HFF.out (i := 0) (by simp)
    have g1_3 := E3.out.cell 1 _ rfl
    have y1_3 := E3.out.free HFF.out (i := 1) (by simp)
    have g2_3 := E3.out.cell 2 _ rfl
    have y2_3 := E3.out.free HFF.out (i := 2) (by simp)
    have g3_3 := E3.out.cell 3 _ rfl
    have y3_3 := E3.out.free HFF.out (i := 3) (by simp)
    simp only [Nat.add_zero] at g0_3 y0_3
    have E4 := Lib.hid (show Elem b (o + k * 4) (f1 ++ f3) wr (w2.setCell ⟨b, o + k * 4 + 2, none⟩ (.bool (mb (m1)))) [.string (StrK.mt (l)), .slice A1 x1.length c1, .bool (mb (m1)), .slice A3 x3.length c3] from E3.out.set (i := 2) (by simp) (.bool (mb (m1))))
    have R4_1 := Lib.hid (Rep.keepF R3_1.out (ModF.set w2 (p := ⟨b, o + k * 4 + 2, none⟩) (List.mem_singleton.2 rfl) (.bool (mb (m1)))) (fun x hx h9 => by rw [List.mem_singleton.1 h9] at hx; exact nb1 hx))
    have R4_3 := Lib.hid (Rep.keepF R3_3.out (ModF.set w2 (p := ⟨b, o + k * 4 + 2, none⟩) (List.mem_singleton.2 rfl) (.bool (mb (m1)))) (fun x hx h9 => by rw [List.mem_singleton.1 h9] at hx; exact nb3 hx))
    clear E3 R3_1 R3_3
    go_wp2_with fail
    refine (Calls.mono (MK3.out _ R4_3.out)) ?_
    rintro e w4 ⟨rfl, r3, d4⟩
    have E5 := Lib.hid (E4.out.mod d4 nb3 (fun x hx => by simp [hx]))
    have R5_1 := Lib.hid (Rep.keepF R4_1.out d4 ap1_3)
    have R5_3 := Lib.hid r3
    clear d4 r3 E4 R4_1 R4_3
    clear lt_3 g0_3 y0_3 g1_3 y1_3 g2_3 y2_3 g3_3 y3_3
    have lt_5 := E5.out.lt
    have g0_5 := E5.out.cell 0 _ rfl
    have y0_5 := E5.out.free HFF.out (i := 0) (by simp)
    have g1_5 := E5.out.cell 1 _ rfl
    have y1_5 := E5.out.free HFF.out (i := 1) (by simp)
    have g2_5 := E5.out.cell 2 _ rfl
    have y2_5 := E5.out.free HFF.out (i := 2) (by simp)
    have g3_5 := E5.out.cell 3 _ rfl
    have y3_5 := E5.out.free HFF.out (i := 3) (by simp)
    simp only [Nat.add_zero] at g0_5 y0_5
    have HN : Marking fn mkFunctionU nFunctionU fp w xs (some ⟨b, o, none⟩) k0 (.int .i64 ((m3 : Int))) (.int .i64 ((k : Int) + 1)) w4 := by
     have hE := E5.out
     have hnat := HNAT.out
     have hm1 := HM1.out
     have hm3 := HM3.out
     have hR1 := R5_1.out
     have hR3 := R5_3.out
     have hN := HNX.out w4 [.string (StrK.mt (l)), .slice A1 x1.length c1, .bool (mb (m1)), .slice A3 x3.length c3] (by
      simp only [mkFunctionU]
      have t1 := hR1
      have t3 := hR3
      rw [← mks_len (mk := mkStr) (sz := nStr) x1 (l + 1)] at t1
      rw [← mks_len (mk := mkLin) (sz := nLin) x3 (m1 + 1)] at t3
      have hh := fn_close (q := true) (w := w4) (StrK.mt (l)) (mb (m1)) t1 t3
      simp only [mks_len] at hh
      subst hm3
      subst hm1
      exact hh) hE.modF (fun j hj => hE.other (o + j) (by have hj : j < k * 4 ∨ k * 4 + 4 ≤ j := hj; simp only [List.length_cons, List.length_nil]; omega)) (fun i hi => by
      have hi : i < 4 := hi
      match i, hi with
      | 0, _ => exact hE.cell 0 _ rfl
      | 1, _ => exact hE.cell 1 _ rfl
      | 2, _ => exact hE.cell 2 _ rfl
      | 3, _ => exact hE.cell 3 _ rfl
      | j + 4, hi => omega) (fun j => hE.frozen (o + j))
     rw [show ((l + nFunctionU (z0, x1, z2, x3) : Nat) : Int) = (m3 : Int) by simp only [nFunctionU]; omega, show ((k + 1 : Nat) : Int) = (k : Int) + 1 by omega] at hN
     exact hN
    have HN := Lib.hid HN
    clear E5 R5_1 R5_3 HNX
    go_wp2
    go_roundw
    case rel => exact HN.out
    case measure => simp [intOf]; omega
   ·obtain rfl : k = xs.length := by omega
    obtain ⟨h1, h2, h3⟩ := marking_end HC.out HNE.out hrel
    have F := Lib.hid (show MarkedU fn mkFunctionU nFunctionU fp w A c k0 xs (.returned (.int .i64 l)) wr from ⟨by rw [h3]; simp, h1, h2⟩)
    clear h1 h2 h3 hrel
    go_wp2
    go_ret
    exact F.out
end Mem
end Go.Proofs.YtbbllkhmenpnlaaGreat
