import Derived.Test.YtaaceggedjcbpaaPgmFind
import Derived.Test.YtaaceggedjcbpaaNameMath
/-
  Functions of a program: the search, of the program.
-/
namespace Go.Proofs.Ytaaceggedjcbpaa
open Go.RowKit
namespace ProgI
open RowK Mem

def zeroF : FunctionT := (ByteArray.empty, [], false, [])
/-- The first function with this name. -/
def findF (fs : List FunctionT) (nm : ByteArray) : Option FunctionT := fs.find? (fun f => decide (f.1 = nm))
def GaveFnO (w : World) (o : Option FunctionT) (e : Ending) (w' : World) : Prop :=
  ∃ A1 c1 A3 c3, e = .returned (.tuple #[.agg #[.string (o.getD zeroF).1, .slice A1 (o.getD zeroF).2.1.length c1, .bool (o.getD zeroF).2.2.1, .slice A3 (o.getD zeroF).2.2.2.length c3], .bool o.isSome]) ∧
    OwnR fn w.heap.size w'.heap.size w' [.string (o.getD zeroF).1, .slice A1 (o.getD zeroF).2.1.length c1, .bool (o.getD zeroF).2.2.1, .slice A3 (o.getD zeroF).2.2.2.length c3] (o.getD zeroF) ∧ Below w.heap.size w w'
theorem own_zero {lo : Nat} {u : World} (h : lo ≤ u.heap.size) : OwnR fn lo u.heap.size u [.string ByteArray.empty, .slice none 0 0, .bool false, .slice none 0 0] zeroF :=
  OwnR.prod (mid := u.heap.size) (OwnR.str (Nat.le_refl _) _) (OwnR.prod (mid := u.heap.size) (OwnS.nil _ _ _ _ (Nat.le_refl _)) (OwnR.prod (mid := u.heap.size) (OwnR.bool (Nat.le_refl _) _) (OwnS.nil _ _ _ _ (Nat.le_refl _)) (Nat.le_refl _) (Nat.le_refl _)) (Nat.le_refl _) (Nat.le_refl _)) h (Nat.le_refl _)
theorem find_none {fs : List FunctionT} {nm : ByteArray} (h : ∀ f ∈ fs, f.1 ≠ nm) : findF fs nm = none := by
  unfold findF
  rw [List.find?_eq_none]
  intro x hx
  simpa using h x hx
theorem find_at {fs : List FunctionT} {nm : ByteArray} {k : Nat} (hk : k < fs.length) (h : ∀ f ∈ fs.take k, f.1 ≠ nm) (e : fs[k].1 = nm) : findF fs nm = some fs[k] := by
  unfold findF
  rw [List.find?_eq_some_iff_getElem]
  refine ⟨by simpa using e, k, hk, rfl, fun j hj => ?_⟩
  have := h fs[j] (List.mem_take_iff_getElem.2 ⟨j, by omega, rfl⟩)
  simpa using this
theorem fs_len {fs : List FunctionT} {k : Nat} (hk : k < fs.length) (h : fs.length + szs szFunctionU fs ≤ 100000000) : szFunctionU fs[k] ≤ 100000000 := by
  have := szs_mem (sz := szFunctionU) (List.getElem_mem hk)
  omega
theorem str_ne {s t : ByteArray} (h : s ≠ t) : (s.toList == t.toList) = false := beq_eq_false_iff_ne.2 (fun e => h (NameM.toList_inj (by rw [← ByteArray.toList_eq, ← ByteArray.toList_eq]; exact e)))

set_option maxHeartbeats 4000000 in
set_option maxRecDepth 100000 in
theorem find (A B : Option Addr) (n c d : Nat) (fs : List FunctionT) (nm : ByteArray) (w : World) (hA : ArgS fn w A fs.length c fs) (hl : fs.length + szs szFunctionU fs ≤ 100000000) :
    Calls Try.prog 9 #[.agg #[.slice A fs.length c, .slice B n d], .string nm] w (GaveFnO w (findF fs nm)) := by
  have B0 := Lib.hid (((Below.refl w.heap.size w).alloc (Nat.le_refl _) (Obj.cells #[Value.slice A fs.length c, Value.slice B n d] 36)).alloc (by simp) (Obj.cells #[Value.string ByteArray.empty, Value.slice none 0 0, Value.bool false, Value.slice none 0 0] 30))
  have V0 := Lib.hid (Lvar.new (w.alloc (Obj.cells #[Value.slice A fs.length c, Value.slice B n d] 36)) #[Value.string ByteArray.empty, Value.slice none 0 0, Value.bool false, Value.slice none 0 0] 30)
  simp only [World.size_alloc] at V0
  have HL := Lib.hid hl
  have hxl : fs.length ≤ 1000000000 := by omega
  have HA := Lib.hid hA
  clear hA hl
  go_enter Try.func9, Try.ntmps9
  go_wp2
  go_loopw [11] (fun i wr => ∃ k : Nat, k ≤ fs.length ∧ i = .int .i64 k ∧ (∀ f ∈ fs.take k, f.1 ≠ nm) ∧ Below w.heap.size w wr ∧ Lvar wr (w.heap.size + 1) #[Value.string ByteArray.empty, Value.slice none 0 0, Value.bool false, Value.slice none 0 0]) (fun i _ => fs.length - (intOf i).toNat)
  case atStart => exact ⟨0, Nat.zero_le _, rfl, by simp, B0.out, V0.out⟩
  case round =>
    obtain ⟨k, hk, rfl, hall, hb, hv⟩ := hrel
    have HAL := Lib.hid hall
    have HBB := Lib.hid hb
    have HV := Lib.hid hv
    clear hall hb hv V0 B0
    by_cases hlt : k < fs.length
    · obtain ⟨b, o, A1, c1, A3, c3, rfl, hbb, g0, g1, g2, g3, t1, t3⟩ := (HA.out.below HBB.out).fn_at hlt
      have hs9 := fs_len hlt HL.out
      have HT := Lib.hid (take_snoc hlt)
      have HF := Lib.hid (fun e => find_at hlt HAL.out e)
      generalize fs[k] = x at *
      obtain ⟨z0, x1, z2, x3⟩ := x
      simp only at g0 g1 g2 g3 t1 t3 hs9
      have hi0 : (0 : Int) ≤ (k : Int) := by omega
      have hi1 : (k : Int) < (fs.length : Int) := by omega
      have hd : Below wr.heap.size wr (wr.alloc (Obj.cells #[Value.string z0, Value.slice A1 x1.length c1, Value.bool z2, Value.slice A3 x3.length c3] 30)) := (Below.refl _ _).alloc (Nat.le_refl _) _
      have HD := Lib.hid hd
      by_cases he : z0 = nm
      · subst he
        have CP := Lib.hid (copyFn z0 A1 c1 x1 z2 A3 c3 x3 _ (t1.below hd) (t3.below hd) hs9)
        have HFF := Lib.hid (HF.out rfl)
        clear HF hd t1 t3
        go_wp2_with fail
        refine (Calls.mono CP.out) ?_
        rintro e w1 ⟨D1, d1, D3, d3, rfl, o1, b1⟩
        have O1 := Lib.hid o1
        have hz := b1.size
        simp only [World.size_alloc] at hz
        have B1 := Lib.hid (HBB.out.trans ((below_step HD.out b1).mono HBB.out.size))
        have V1 := HV.out.below (below_step HD.out b1)
        have cV0 := V1.cell 0 _ rfl
        have cV1 := V1.cell 1 _ rfl
        have cV2 := V1.cell 2 _ rfl
        have cV3 := V1.cell 3 _ rfl
        have yV0 := V1.frozen 0
        have yV1 := V1.frozen 1
        have yV2 := V1.frozen 2
        have yV3 := V1.frozen 3
        have V1 := Lib.hid V1
        have HVL := Lib.hid HV.out.lt
        clear o1 b1
        go_wp2
        have VC := (((V1.out.set 0 (Value.string z0)).set 1 (Value.slice D1 x1.length d1)).set 2 (Value.bool z2)).set 3 (Value.slice D3 x3.length d3)
        obtain ⟨i9, hi9, _, hs8, _⟩ := info_parts infoFunction
        refine bodyPost_ret (results_row2 rfl _ _ (w.heap.size + 1) #[.string z0, .slice D1 x1.length d1, .bool z2, .slice D3 x3.length d3] rfl rfl VC Try.underlying30 rfl (by rw [hi9, Option.map_some, hs8]; rfl)) rfl ?_
        have key : ∀ {u : World}, Mod w.heap.size (w.heap.size + 2) w1 u → OwnR fn w.heap.size u.heap.size u [.string z0, .slice D1 x1.length d1, .bool z2, .slice D3 x3.length d3] (z0, x1, z2, x3) ∧ Below w.heap.size w u := fun {u} hm => by
          have hs := hm.size
          have h5 := HVL.out
          have h6 := O1.out
          simp only [World.size_alloc] at h6
          exact ⟨(OwnR.keep h6 hm (Or.inr (by omega))).wider (by omega) (by omega) (Nat.le_refl _), below_mod B1.out hm (Nat.le_refl _) B1.out.size⟩
        rw [HFF.out]
        refine ⟨D1, d1, D3, d3, rfl, key ?_⟩
        repeat (first | with_reducible exact Mod.refl _ _ _ | refine Mod.trans ?_ (Mod.set _ (by first | omega | (simp; done) | (simp; omega)) (by first | omega | (simp; done) | (simp; omega)) _))
      · have hs := str_ne he
        have HN := Lib.hid he
        have V1 := Lib.hid (HV.out.below HD.out)
        have B1 := Lib.hid (HBB.out.trans (HD.out.mono HBB.out.size))
        clear HF hd t1 t3 he
        go_wp2
        go_roundw
        case rel => exact ⟨k + 1, by omega, by go_num, by
          rw [HT.out]
          intro f hf
          rcases List.mem_append.1 hf with hf | hf
          · exact HAL.out f hf
          · rw [List.mem_singleton.1 hf]; exact HN.out, B1.out, V1.out⟩
        case measure => simp [intOf]; omega
    · obtain rfl : k = fs.length := by omega
      have HR := Lib.hid (find_none (nm := nm) (by have := HAL.out; rwa [List.take_length] at this))
      have V1 := HV.out
      have cV0 := V1.cell 0 _ rfl
      have cV1 := V1.cell 1 _ rfl
      have cV2 := V1.cell 2 _ rfl
      have cV3 := V1.cell 3 _ rfl
      have yV0 := V1.frozen 0
      have yV1 := V1.frozen 1
      have yV2 := V1.frozen 2
      have yV3 := V1.frozen 3
      have V1 := Lib.hid V1
      go_wp2
      have VC := (((V1.out.set 0 (Value.string ByteArray.empty)).set 1 (Value.slice none 0 0)).set 2 (Value.bool false)).set 3 (Value.slice none 0 0)
      obtain ⟨i9, hi9, _, hs8, _⟩ := info_parts infoFunction
      refine bodyPost_ret (results_row2 rfl _ _ (w.heap.size + 1) #[.string ByteArray.empty, .slice none 0 0, .bool false, .slice none 0 0] rfl rfl VC Try.underlying30 rfl (by rw [hi9, Option.map_some, hs8]; rfl)) rfl ?_
      rw [HR.out]
      have key : ∀ {u : World}, Mod w.heap.size (w.heap.size + 2) wr u → OwnR fn w.heap.size u.heap.size u [.string ByteArray.empty, .slice none 0 0, .bool false, .slice none 0 0] zeroF ∧ Below w.heap.size w u := fun {u} hm => by
        have hs := hm.size
        have h5 := HBB.out.size
        exact ⟨own_zero (by omega), below_mod HBB.out hm (Nat.le_refl _) HBB.out.size⟩
      refine ⟨none, 0, none, 0, rfl, key ?_⟩
      repeat (first | with_reducible exact Mod.refl _ _ _ | refine Mod.trans ?_ (Mod.set _ (by first | omega | (simp; done) | (simp; omega)) (by first | omega | (simp; done) | (simp; omega)) _))
end ProgI
end Go.Proofs.Ytaaceggedjcbpaa
