import Derived.Test.YtbbllkhmenpnlaaGreatUProgram
import Derived.Test.YtbbllkhmenpnlaaGreatSysCopyI
import Derived.Test.YtbbllkhmenpnlaaGreatShelf
import Derived.Test.YtbbllkhmenpnlaaGreatArgMath
/-
  Functions of a program: copies and search, of the program.
-/
namespace Go.Proofs.YtbbllkhmenpnlaaGreat
open Go.RowKit
namespace ProgI
open RowK Mem

def GaveFn (w : World) (x : FunctionT) (e : Ending) (w' : World) : Prop :=
 ∃ A1 c1 A3 c3, e = .returned (.agg #[.string x.1, .slice A1 x.2.1.length c1, .bool x.2.2.1, .slice A3 x.2.2.2.length c3]) ∧ OwnR fn w.heap.size w'.heap.size w' [.string x.1, .slice A1 x.2.1.length c1, .bool x.2.2.1, .slice A3 x.2.2.2.length c3] x ∧ Below w.heap.size w w'

theorem cloneS (A : Option Addr) (c : Nat) (ss : List ByteArray) (w : World) (hA : ArgS Rep.str w A ss.length c ss) (hl : ss.length ≤ 100000000) :
  Calls Tryz.prog 164 #[.slice A ss.length c] w (fun e w' => ∃ B d, e = .returned (.slice B ss.length d) ∧ OwnS Rep.str w.heap.size w'.heap.size w' B ss.length d ss ∧ Below w.heap.size w w') := by
 have key : ∀ (w' : World) (v : Value), w'.ownsRow w.heap.size 9 1 v ss.length (ss.map Value.string) → Below w.heap.size w w' → ∃ B d, Ending.returned v = .returned (.slice B ss.length d) ∧ OwnS Rep.str w.heap.size w'.heap.size w' B ss.length d ss ∧ Below w.heap.size w w' := fun w' v h hb => by
  obtain ⟨B, d, e, h1, h2, h3, h4⟩ := StrK.of_own h
  have hr := strs_close (q := true) h1 (fun _ => h2) h4
  refine ⟨B, d, by rw [e], ⟨Nat.le_refl _, _, hr, fpS_nodup _ _, fun b hb' => ⟨?_, (Rep.slice Rep.str).lt hr b hb'⟩⟩, hb⟩
  unfold fpS at hb'
  split at hb'
  ·cases hb'
  ·cases hB : B with
   | none => rw [hB] at hb'; cases hb'
   | some a =>
    rw [hB] at hb'
    simp at hb'
    rw [hb']
    exact h3 a hB
 obtain ⟨q, fp, hA⟩ := hA
 obtain ⟨hr, _⟩ := strs_open hA
 by_cases hn : ss = []
 ·subst hn
  cases A with
  | none =>
   refine (Tryz.slices_Clone_string_nil _ _ _).mono ?_
   rintro e w' ⟨rfl, rfl⟩
   exact ⟨none, 0, rfl, OwnS.nil _ _ _ _ (Nat.le_refl _), Below.refl _ _⟩
  | some a =>
   refine (Tryz.slices_Clone_string_zero a c w).mono ?_
   rintro e w' ⟨v, rfl, h, _, hb⟩
   exact key w' v h hb
 ·obtain ⟨b, o, rfl, hlt, hc⟩ := hr hn
  refine (Tryz.slices_Clone_string b o ss.length c ss w (Nat.le_refl _) (by omega) (fun j hj => ?_)).mono ?_
  ·rw [hc j ss[j] (List.getElem?_eq_getElem hj)]
   simp [List.getD, List.getElem?_eq_getElem hj]
  ·rintro e w' ⟨v, rfl, h, _, hb⟩
   rw [List.take_length] at h
   exact key w' v h hb
theorem copyLins (A : Option Addr) (c : Nat) (xs : List (Int × List Int)) (w : World) (hA : ArgS lin w A xs.length c xs) (hl : xs.length + szs szLin xs ≤ 100000000) :
  Calls Tryz.prog 203 #[.slice A xs.length c, .func (.func 204) #[] #[]] w fun e w' => ∃ B d, e = .returned (.slice B xs.length d) ∧ OwnS lin w.heap.size w'.heap.size w' B xs.length d xs ∧ Below w.heap.size w w' := by
 refine (SysI.copied A c xs w hA (by rw [linsSize_szs]; omega)).mono ?_
 rintro e w' ⟨v, rfl, hO, hb⟩
 obtain ⟨B, d, rfl, h⟩ := hO.ownS (by decide) (fun b h => h)
 exact ⟨B, d, rfl, h, hb⟩

set_option maxHeartbeats 4000000 in
set_option maxRecDepth 100000 in
theorem copyFn (z0 : ByteArray) (A1 : Option Addr) (c1 : Nat) (x1 : List ByteArray) (z2 : Bool) (A3 : Option Addr) (c3 : Nat) (x3 : List (Int × List Int)) (w : World)
  (h1 : ArgS Rep.str w A1 x1.length c1 x1) (h3 : ArgS lin w A3 x3.length c3 x3) (hl : szFunctionU (z0, x1, z2, x3) ≤ 100000000) :
  Calls Tryz.prog 172 #[.agg #[.string z0, .slice A1 x1.length c1, .bool z2, .slice A3 x3.length c3]] w (GaveFn w (z0, x1, z2, x3)) := by
 simp only [szFunctionU] at hl
 have C1 := Lib.hid (fun W (h : Below w.heap.size w W) => cloneS A1 c1 x1 W (h1.below h) (by omega))
 have C3 := Lib.hid (fun W (h : Below w.heap.size w W) => copyLins A3 c3 x3 W (h3.below h) (by omega))
 clear h1 h3 hl
 go_enter Tryz.func172, Tryz.ntmps172
 go_wp2_with fail
 refine (Calls.mono (C1.out _ (by repeat (first | with_reducible exact Below.refl _ _ | with_reducible exact Below.refl _ _ | refine Below.setCell ?_ (by first | omega | (simp; done) | (simp; omega)) _ | refine Below.alloc ?_ (by first | omega | (simp; done) | (simp; omega)) _)))) ?_
 rintro e w0 ⟨D1, d1, rfl, o1, b0⟩
 have B0 : Below w.heap.size w w0 := below_step (by repeat (first | with_reducible exact Below.refl _ _ | with_reducible exact Below.refl _ _ | refine Below.setCell ?_ (by first | omega | (simp; done) | (simp; omega)) _ | refine Below.alloc ?_ (by first | omega | (simp; done) | (simp; omega)) _)) b0
 have hz0 := b0.size
 simp only [World.size_alloc, OwnS] at hz0 o1
 have VA0 := ((Lvar.new w #[Value.string z0, Value.slice A1 x1.length c1, Value.bool z2, Value.slice A3 x3.length c3] 98).alloc (Obj.cells #[Value.string ByteArray.empty, Value.slice none 0 0, Value.bool false, Value.slice none 0 0] 98)).below b0
 have VB0 := (Lvar.new (w.alloc (Obj.cells #[Value.string z0, Value.slice A1 x1.length c1, Value.bool z2, Value.slice A3 x3.length c3] 98)) #[Value.string ByteArray.empty, Value.slice none 0 0, Value.bool false, Value.slice none 0 0] 98).below b0
 simp only [World.size_alloc] at VB0
 have cA0_0 := VA0.cell 0 _ rfl
 have cA0_1 := VA0.cell 1 _ rfl
 have cA0_2 := VA0.cell 2 _ rfl
 have cA0_3 := VA0.cell 3 _ rfl
 have yA0_1 := VA0.frozen 1
 have VA0 := Lib.hid VA0
 have VB0 := Lib.hid VB0
 clear b0
 go_wp2_with fail
 refine (Calls.mono (C3.out _ (by repeat (first | with_reducible exact B0 | with_reducible exact Below.refl _ _ | refine Below.setCell ?_ (by first | omega | (simp; done) | (simp; omega)) _ | refine Below.alloc ?_ (by first | omega | (simp; done) | (simp; omega)) _)))) ?_
 rintro e w1 ⟨D3, d3, rfl, o3, b1⟩
 have B1 : Below w.heap.size w w1 := below_step (by repeat (first | with_reducible exact B0 | with_reducible exact Below.refl _ _ | refine Below.setCell ?_ (by first | omega | (simp; done) | (simp; omega)) _ | refine Below.alloc ?_ (by first | omega | (simp; done) | (simp; omega)) _)) b1
 have hz1 := b1.size
 simp only [World.size_setCell, OwnS] at hz1 o3
 have o1 : OwnR (Rep.slice Rep.str) (w.heap.size + 1 + 1) w0.heap.size w1 [.slice D1 x1.length d1] x1 := OwnR.below (OwnR.keep o1 (show Mod w.heap.size (w.heap.size + 2) w0 _ from (by repeat (first | with_reducible exact Mod.refl _ _ _ | refine Mod.trans ?_ (Mod.set _ (by first | omega | (simp; done) | (simp; omega)) (by first | omega | (simp; done) | (simp; omega)) _)))) (Or.inr (by omega))) b1
 have VA1 : Lvar w1 w.heap.size #[Value.string z0, Value.slice D1 x1.length d1, Value.bool z2, Value.slice A3 x3.length c3] := (VA0.out.set 1 (Value.slice D1 x1.length d1)).below b1
 have VB1 := (VB0.out.other (p := ⟨w.heap.size, 1, none⟩) (by first | omega | (simp; done) | (simp; omega)) (Value.slice D1 x1.length d1)).below b1
 clear cA0_0 cA0_1 cA0_2 cA0_3 yA0_1 VA0 VB0 b1
 have cA1_0 := VA1.cell 0 _ rfl
 have cA1_1 := VA1.cell 1 _ rfl
 have cA1_2 := VA1.cell 2 _ rfl
 have cA1_3 := VA1.cell 3 _ rfl
 have yA1_3 := VA1.frozen 3
 have cB1_0 := VB1.cell 0 _ rfl
 have cB1_1 := VB1.cell 1 _ rfl
 have cB1_2 := VB1.cell 2 _ rfl
 have cB1_3 := VB1.cell 3 _ rfl
 have yB1_0 := VB1.frozen 0
 have yB1_1 := VB1.frozen 1
 have yB1_2 := VB1.frozen 2
 have yB1_3 := VB1.frozen 3
 have VB1 := Lib.hid VB1
 have VA1 := Lib.hid VA1
 have o3 : OwnR (Rep.slice lin) w0.heap.size w1.heap.size w1 [.slice D3 x3.length d3] x3 := o3
 have O1 := Lib.hid o1
 have O3 := Lib.hid o3
 clear o1 o3
 go_wp2_with fail
 have VC := ((((((VB1.out.other (p := ⟨w.heap.size, 3, none⟩) (by first | omega | (simp; done) | (simp; omega)) (Value.slice D3 x3.length d3)).set 0 (Value.string z0)).set 1 (Value.slice D1 x1.length d1)).set 2 (Value.bool z2)).set 3 (Value.slice D3 x3.length d3)))
 obtain ⟨T9, hT9⟩ := (show Lvar _ (w.heap.size + 1) #[Value.string z0, Value.slice D1 x1.length d1, Value.bool z2, Value.slice D3 x3.length d3] from VC)
 obtain ⟨i9, hi9, _, hs9, _⟩ := info_parts infoFunction
 refine bodyPost_ret (results_cell_row rfl _ _ (w.heap.size + 1) T9 #[.string z0, .slice D1 x1.length d1, .bool z2, .slice D3 x3.length d3] _ _ rfl hT9 Tryz.underlying98 rfl (by rw [hi9, Option.map_some, hs9]; rfl)) rfl ?_
 have key : ∀ {u : World}, Mod w.heap.size (w.heap.size + 2) w1 u → OwnR fn w.heap.size u.heap.size u [.string z0, .slice D1 x1.length d1, .bool z2, .slice D3 x3.length d3] (z0, x1, z2, x3) ∧ Below w.heap.size w u := fun {u} hm => by
  have hs := hm.size
  have o1 := OwnR.keep O1.out hm (Or.inr (by omega))
  have o3 := OwnR.keep O3.out hm (Or.inr (by omega))
  exact ⟨OwnR.prod (mid := w.heap.size) (OwnR.str (by omega) z0) (OwnR.prod (mid := w0.heap.size) (o1.wider (lo' := w.heap.size) (hi' := w0.heap.size) (by omega) (by omega) (by omega)) (OwnR.prod (mid := w0.heap.size) (OwnR.bool (by omega) z2) (o3.wider (by omega) (by omega) (Nat.le_refl _)) (by omega) (by omega)) (by omega) (by omega)) (by omega) (by omega), below_mod B1 hm (Nat.le_refl _) B1.size⟩
 refine ⟨D1, d1, D3, d3, rfl, key ?_⟩
 repeat (first | with_reducible exact Mod.refl _ _ _ | refine Mod.trans ?_ (Mod.set _ (by first | omega | (simp; done) | (simp; omega)) (by first | omega | (simp; done) | (simp; omega)) _))
end ProgI
end Go.Proofs.YtbbllkhmenpnlaaGreat

/-
  Functions of a program: the search, of the program.
-/
namespace Go.Proofs.YtbbllkhmenpnlaaGreat
open Go.RowKit
namespace ProgI
open RowK Mem

def zeroF : FunctionT := (ByteArray.empty, [], false, [])
def findF (fs : List FunctionT) (nm : ByteArray) : Option FunctionT := fs.find? (fun f => decide (f.1 = nm))
def GaveFnO (w : World) (o : Option FunctionT) (e : Ending) (w' : World) : Prop :=
 ∃ A1 c1 A3 c3, e = .returned (.tuple #[.agg #[.string (o.getD zeroF).1, .slice A1 (o.getD zeroF).2.1.length c1, .bool (o.getD zeroF).2.2.1, .slice A3 (o.getD zeroF).2.2.2.length c3], .bool o.isSome]) ∧
  OwnR fn w.heap.size w'.heap.size w' [.string (o.getD zeroF).1, .slice A1 (o.getD zeroF).2.1.length c1, .bool (o.getD zeroF).2.2.1, .slice A3 (o.getD zeroF).2.2.2.length c3] (o.getD zeroF) ∧ Below w.heap.size w w'
theorem own_zero {lo : Nat} {u : World} (h : lo ≤ u.heap.size) : OwnR fn lo u.heap.size u [.string ByteArray.empty, .slice none 0 0, .bool false, .slice none 0 0] zeroF :=
 OwnR.prod (mid := u.heap.size) (OwnR.str (Nat.le_refl _) _) (OwnR.prod (mid := u.heap.size) (OwnS.nil _ _ _ _ (Nat.le_refl _)) (OwnR.prod (mid := u.heap.size) (OwnR.bool (Nat.le_refl _) _) (OwnS.nil _ _ _ _ (Nat.le_refl _)) (Nat.le_refl _) (Nat.le_refl _)) (Nat.le_refl _) (Nat.le_refl _)) h (Nat.le_refl _)
theorem find_none {fs : List FunctionT} {nm : ByteArray} (h : ∀ f ∈ fs, f.1 ≠ nm) : findF fs nm = none := by
 unfold findF
 rw [List.find?_eq_none]
 intro x hx
 simpa using h x hx
theorem find_at {fs : List FunctionT} {nm : ByteArray} {k : Nat} (hk : k < fs.length) (h : ∀ f ∈ fs.take k, f.1 ≠ nm) (e : fs[k].1 = nm) : findF fs nm = some fs[k] := by
 unfold findF
 rw [List.find?_eq_some_iff_getElem]
 refine ⟨by simpa using e, k, hk, rfl, fun j hj => ?_⟩
 have := h fs[j] (List.mem_take_iff_getElem.2 ⟨j, by omega, rfl⟩)
 simpa using this
theorem fs_len {fs : List FunctionT} {k : Nat} (hk : k < fs.length) (h : fs.length + szs szFunctionU fs ≤ 100000000) : szFunctionU fs[k] ≤ 100000000 := by
 have := szs_mem (sz := szFunctionU) (List.getElem_mem hk)
 omega
theorem str_ne {s t : ByteArray} (h : s ≠ t) : (s.toList == t.toList) = false := beq_eq_false_iff_ne.2 (fun e => h (NameM.toList_inj (by rw [← ByteArray.toList_eq, ← ByteArray.toList_eq]; exact e)))

set_option maxHeartbeats 4000000 in
set_option maxRecDepth 100000 in
theorem find (A B : Option Addr) (n c d : Nat) (fs : List FunctionT) (nm : ByteArray) (w : World) (hA : ArgS fn w A fs.length c fs) (hl : fs.length + szs szFunctionU fs ≤ 100000000) :
  Calls Tryz.prog 128 #[.agg #[.slice A fs.length c, .slice B n d], .string nm] w (GaveFnO w (findF fs nm)) := by
 have B0 := Lib.hid (((Below.refl w.heap.size w).alloc (Nat.le_refl _) (Obj.cells #[Value.slice A fs.length c, Value.slice B n d] 27)).alloc (by simp) (Obj.cells #[Value.string ByteArray.empty, Value.slice none 0 0, Value.bool false, Value.slice none 0 0] 98))
 have V0 := Lib.hid (Lvar.new (w.alloc (Obj.cells #[Value.slice A fs.length c, Value.slice B n d] 27)) #[Value.string ByteArray.empty, Value.slice none 0 0, Value.bool false, Value.slice none 0 0] 98)
 simp only [World.size_alloc] at V0
 have HL := Lib.hid hl
 have hxl : fs.length ≤ 1000000000 := by omega
 have HA := Lib.hid hA
 clear hA hl
 go_enter Tryz.func128, Tryz.ntmps128
 go_wp2
 go_loopw [11] (fun i wr => ∃ k : Nat, k ≤ fs.length ∧ i = .int .i64 k ∧ (∀ f ∈ fs.take k, f.1 ≠ nm) ∧ Below w.heap.size w wr ∧ Lvar wr (w.heap.size + 1) #[Value.string ByteArray.empty, Value.slice none 0 0, Value.bool false, Value.slice none 0 0]) (fun i _ => fs.length - (intOf i).toNat)
 case atStart => exact ⟨0, Nat.zero_le _, rfl, by simp, B0.out, V0.out⟩
 case round =>
  obtain ⟨k, hk, rfl, hall, hb, hv⟩ := hrel
  have HAL := Lib.hid hall
  have HBB := Lib.hid hb
  have HV := Lib.hid hv
  clear hall hb hv V0 B0
  by_cases hlt : k < fs.length
  ·obtain ⟨b, o, A1, c1, A3, c3, rfl, hbb, g0, g1, g2, g3, t1, t3⟩ := (HA.out.below HBB.out).fn_at hlt
   have hs9 := fs_len hlt HL.out
   have HT := Lib.hid (take_snoc hlt)
   have HF := Lib.hid (fun e => find_at hlt HAL.out e)
   generalize fs[k] = x at *
   obtain ⟨z0, x1, z2, x3⟩ := x
   simp only at g0 g1 g2 g3 t1 t3 hs9
   have hi0 : (0 : Int) ≤ (k : Int) := by omega
   have hi1 : (k : Int) < (fs.length : Int) := by omega
   have hd : Below wr.heap.size wr (wr.alloc (Obj.cells #[Value.string z0, Value.slice A1 x1.length c1, Value.bool z2, Value.slice A3 x3.length c3] 98)) := (Below.refl _ _).alloc (Nat.le_refl _) _
   have HD := Lib.hid hd
   by_cases he : z0 = nm
   ·subst he
    have CP := Lib.hid (copyFn z0 A1 c1 x1 z2 A3 c3 x3 _ (t1.below hd) (t3.below hd) hs9)
    have HFF := Lib.hid (HF.out rfl)
    clear HF hd t1 t3
    go_wp2_with fail
    refine (Calls.mono CP.out) ?_
    rintro e w1 ⟨D1, d1, D3, d3, rfl, o1, b1⟩
    have O1 := Lib.hid o1
    have hz := b1.size
    simp only [World.size_alloc] at hz
    have B1 := Lib.hid (HBB.out.trans ((below_step HD.out b1).mono HBB.out.size))
    have V1 := HV.out.below (below_step HD.out b1)
    have cV0 := V1.cell 0 _ rfl
    have cV1 := V1.cell 1 _ rfl
    have cV2 := V1.cell 2 _ rfl
    have cV3 := V1.cell 3 _ rfl
    have yV0 := V1.frozen 0
    have yV1 := V1.frozen 1
    have yV2 := V1.frozen 2
    have yV3 := V1.frozen 3
    have V1 := Lib.hid V1
    have HVL := Lib.hid HV.out.lt
    clear o1 b1
    go_wp2
    have VC := (((V1.out.set 0 (Value.string z0)).set 1 (Value.slice D1 x1.length d1)).set 2 (Value.bool z2)).set 3 (Value.slice D3 x3.length d3)
    obtain ⟨i9, hi9, _, hs8, _⟩ := info_parts infoFunction
    refine bodyPost_ret (results_row2 rfl _ _ (w.heap.size + 1) #[.string z0, .slice D1 x1.length d1, .bool z2, .slice D3 x3.length d3] rfl rfl VC Tryz.underlying98 rfl (by rw [hi9, Option.map_some, hs8]; rfl)) rfl ?_
    have key : ∀ {u : World}, Mod w.heap.size (w.heap.size + 2) w1 u → OwnR fn w.heap.size u.heap.size u [.string z0, .slice D1 x1.length d1, .bool z2, .slice D3 x3.length d3] (z0, x1, z2, x3) ∧ Below w.heap.size w u := fun {u} hm => by
     have hs := hm.size
     have h5 := HVL.out
     have h6 := O1.out
     simp only [World.size_alloc] at h6
     exact ⟨(OwnR.keep h6 hm (Or.inr (by omega))).wider (by omega) (by omega) (Nat.le_refl _), below_mod B1.out hm (Nat.le_refl _) B1.out.size⟩
    rw [HFF.out]
    refine ⟨D1, d1, D3, d3, rfl, key ?_⟩
    repeat (first | with_reducible exact Mod.refl _ _ _ | refine Mod.trans ?_ (Mod.set _ (by first | omega | (simp; done) | (simp; omega)) (by first | omega | (simp; done) | (simp; omega)) _))
   ·have hs := str_ne he
    have HN := Lib.hid he
    have V1 := Lib.hid (HV.out.below HD.out)
    have B1 := Lib.hid (HBB.out.trans (HD.out.mono HBB.out.size))
    clear HF hd t1 t3 he
    go_wp2
    go_roundw
    case rel => exact ⟨k + 1, by omega, by go_num, by
     rw [HT.out]
     intro f hf
     rcases List.mem_append.1 hf with hf | hf
     ·exact HAL.out f hf
     ·rw [List.mem_singleton.1 hf]; exact HN.out, B1.out, V1.out⟩
    case measure => simp [intOf]; omega
  ·obtain rfl : k = fs.length := by omega
   have HR := Lib.hid (find_none (nm := nm) (by have := HAL.out; rwa [List.take_length] at this))
   have V1 := HV.out
   have cV0 := V1.cell 0 _ rfl
   have cV1 := V1.cell 1 _ rfl
   have cV2 := V1.cell 2 _ rfl
   have cV3 := V1.cell 3 _ rfl
   have yV0 := V1.frozen 0
   have yV1 := V1.frozen 1
   have yV2 := V1.frozen 2
   have yV3 := V1.frozen 3
   have V1 := Lib.hid V1
   go_wp2
   have VC := (((V1.out.set 0 (Value.string ByteArray.empty)).set 1 (Value.slice none 0 0)).set 2 (Value.bool false)).set 3 (Value.slice none 0 0)
   obtain ⟨i9, hi9, _, hs8, _⟩ := info_parts infoFunction
   refine bodyPost_ret (results_row2 rfl _ _ (w.heap.size + 1) #[.string ByteArray.empty, .slice none 0 0, .bool false, .slice none 0 0] rfl rfl VC Tryz.underlying98 rfl (by rw [hi9, Option.map_some, hs8]; rfl)) rfl ?_
   rw [HR.out]
   have key : ∀ {u : World}, Mod w.heap.size (w.heap.size + 2) wr u → OwnR fn w.heap.size u.heap.size u [.string ByteArray.empty, .slice none 0 0, .bool false, .slice none 0 0] zeroF ∧ Below w.heap.size w u := fun {u} hm => by
    have hs := hm.size
    have h5 := HBB.out.size
    exact ⟨own_zero (by omega), below_mod HBB.out hm (Nat.le_refl _) HBB.out.size⟩
   refine ⟨none, 0, none, 0, rfl, key ?_⟩
   repeat (first | with_reducible exact Mod.refl _ _ _ | refine Mod.trans ?_ (Mod.set _ (by first | omega | (simp; done) | (simp; omega)) (by first | omega | (simp; done) | (simp; omega)) _))
end ProgI
end Go.Proofs.YtbbllkhmenpnlaaGreat
