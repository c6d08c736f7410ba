import Derived.Test.YtbdpohcababccaaGreatPgmFindS
/-
  Functions of a program: the search, of the model.
-/
namespace Go.Proofs.YtbdpohcababccaaGreat
open Go.RowKit
namespace ProgS
open RowK Mem ProgI

set_option maxHeartbeats 4000000 in
set_option maxRecDepth 100000 in
theorem find (A B : Option Addr) (n c d : Nat) (fs : List FunctionT) (nm : ByteArray) (w : World) (hA : ArgS fn w A fs.length c fs) (hl : fs.length + szs szFunctionU fs ≤ 100000000) :
    Calls Tryz.prog 42 #[.agg #[.slice A fs.length c, .slice B n d], .string nm] w (GaveFnO w (findF fs nm)) := by
  have B0 := Lib.hid (((Below.refl w.heap.size w).alloc (Nat.le_refl _) (Obj.cells #[Value.slice A fs.length c, Value.slice B n d] 27)).alloc (by simp) (Obj.cells #[Value.string ByteArray.empty, Value.slice none 0 0, Value.bool false, Value.slice none 0 0] 41))
  have V0 := Lib.hid (Lvar.new (w.alloc (Obj.cells #[Value.slice A fs.length c, Value.slice B n d] 27)) #[Value.string ByteArray.empty, Value.slice none 0 0, Value.bool false, Value.slice none 0 0] 41)
  have U0 := Lib.hid ((Lvar.new w #[Value.slice A fs.length c, Value.slice B n d] 27).alloc (Obj.cells #[Value.string ByteArray.empty, Value.slice none 0 0, Value.bool false, Value.slice none 0 0] 41))
  simp only [World.size_alloc] at V0
  have HL := Lib.hid hl
  have hxl : fs.length ≤ 1000000000 := by omega
  have HA := Lib.hid hA
  clear hA hl
  go_enter Tryz.func42, Tryz.ntmps42
  go_wp2
  go_loopw [6] (fun i wr => ∃ k : Nat, k ≤ fs.length ∧ i = .int .i64 k ∧ (∀ f ∈ fs.take k, f.1 ≠ nm) ∧ Below w.heap.size w wr ∧ Lvar wr (w.heap.size + 1) #[Value.string ByteArray.empty, Value.slice none 0 0, Value.bool false, Value.slice none 0 0] ∧ Lvar wr w.heap.size #[Value.slice A fs.length c, Value.slice B n d]) (fun i _ => fs.length - (intOf i).toNat)
  case atStart => exact ⟨0, Nat.zero_le _, rfl, by simp, B0.out, V0.out, U0.out⟩
  case round =>
    obtain ⟨k, hk, rfl, hall, hb, hv, hu⟩ := hrel
    have HAL := Lib.hid hall
    have HBB := Lib.hid hb
    have HV := Lib.hid hv
    have HU := Lib.hid hu
    have u0 : wr.cell? ⟨w.heap.size, 0, none⟩ = some (.slice A fs.length c) := hu.cell 0 _ rfl
    have hul := hu.lt
    clear hall hb hv hu V0 B0 U0
    by_cases hlt : k < fs.length
    · obtain ⟨b, o, A1, c1, A3, c3, rfl, hbb, g0, g1, g2, g3, t1, t3⟩ := (HA.out.below HBB.out).fn_at hlt
      have hs9 := fs_len hlt HL.out
      have HT := Lib.hid (take_snoc hlt)
      have HF := Lib.hid (fun e => find_at hlt HAL.out e)
      generalize fs[k] = x at *
      obtain ⟨z0, x1, z2, x3⟩ := x
      simp only at g0 g1 g2 g3 t1 t3 hs9
      have hi0 : (0 : Int) ≤ (k : Int) := by omega
      have hi1 : (k : Int) < (fs.length : Int) := by omega
      by_cases he : z0 = nm
      · subst he
        have CP := Lib.hid (fun W (h : Below wr.heap.size wr W) => copyFn z0 A1 c1 x1 z2 A3 c3 x3 W (t1.below h) (t3.below h) hs9)
        have HFF := Lib.hid (HF.out rfl)
        have HVL := Lib.hid HV.out.lt
        clear HF t1 t3
        go_wp2_with fail
        refine (Calls.mono (CP.out _ (by first | exact Below.refl _ _ | exact (Below.refl _ _).drew | exact below_drewN (Below.refl _ _) _))) ?_
        rintro e w1 ⟨D1, d1, D3, d3, rfl, o1, b1⟩
        have O1 := Lib.hid o1
        have bw : Below wr.heap.size wr w1 := by first | exact b1 | exact (Below.refl wr.heap.size wr).drew.trans b1 | exact (below_drewN (Below.refl wr.heap.size wr) _).trans b1
        have hz := bw.size
        have B1 := Lib.hid (HBB.out.trans (bw.mono HBB.out.size))
        have V1 := HV.out.below bw
        have cV0 := V1.cell 0 _ rfl
        have cV1 := V1.cell 1 _ rfl
        have cV2 := V1.cell 2 _ rfl
        have cV3 := V1.cell 3 _ rfl
        have yV0 := V1.frozen 0
        have yV1 := V1.frozen 1
        have yV2 := V1.frozen 2
        have yV3 := V1.frozen 3
        have V1 := Lib.hid V1
        clear o1 b1 bw u0
        go_wp2
        have VC := (((V1.out.set 0 (Value.string z0)).set 1 (Value.slice D1 x1.length d1)).set 2 (Value.bool z2)).set 3 (Value.slice D3 x3.length d3)
        obtain ⟨i9, hi9, _, hs8, _⟩ := info_parts infoFunction
        refine bodyPost_ret (results_row2 rfl _ _ (w.heap.size + 1) #[.string z0, .slice D1 x1.length d1, .bool z2, .slice D3 x3.length d3] rfl rfl VC Tryz.underlying41 rfl (by rw [hi9, Option.map_some, hs8]; rfl)) rfl ?_
        have key : ∀ {u : World}, Mod w.heap.size (w.heap.size + 2) w1 u → OwnR fn w.heap.size u.heap.size u [.string z0, .slice D1 x1.length d1, .bool z2, .slice D3 x3.length d3] (z0, x1, z2, x3) ∧ Below w.heap.size w u := fun {u} hm => by
          have hs := hm.size
          have h5 := HVL.out
          have h6 := O1.out
          have h7 : wr.heap.size ≤ wr.heap.size := Nat.le_refl _
          exact ⟨(OwnR.keep h6 hm (Or.inr (by first | omega | (simp; omega)))).wider (by first | omega | (simp; omega)) (by omega) (Nat.le_refl _), below_mod B1.out hm (Nat.le_refl _) B1.out.size⟩
        rw [HFF.out]
        refine ⟨D1, d1, D3, d3, rfl, key ?_⟩
        repeat (first | with_reducible exact Mod.refl _ _ _ | refine Mod.trans ?_ (Mod.set _ (by first | omega | (simp; done) | (simp; omega)) (by first | omega | (simp; done) | (simp; omega)) _))
      · have hs := str_ne he
        have HN := Lib.hid he
        clear HF t1 t3 he
        go_wp2
        go_roundw
        case rel => exact ⟨k + 1, by omega, by go_num, by
          rw [HT.out]
          intro f hf
          rcases List.mem_append.1 hf with hf | hf
          · exact HAL.out f hf
          · rw [List.mem_singleton.1 hf]; exact HN.out, by first | exact HBB.out | exact below_drewN HBB.out _, by first | exact HV.out | exact HV.out.below (below_drewN (Below.refl _ _) _), by first | exact HU.out | exact HU.out.below (below_drewN (Below.refl _ _) _)⟩
        case measure => simp [intOf]; omega
    · obtain rfl : k = fs.length := by omega
      have HR := Lib.hid (find_none (nm := nm) (by have := HAL.out; rwa [List.take_length] at this))
      have V1 := HV.out
      have cV0 := V1.cell 0 _ rfl
      have cV1 := V1.cell 1 _ rfl
      have cV2 := V1.cell 2 _ rfl
      have cV3 := V1.cell 3 _ rfl
      have yV0 := V1.frozen 0
      have yV1 := V1.frozen 1
      have yV2 := V1.frozen 2
      have yV3 := V1.frozen 3
      have V1 := Lib.hid V1
      go_wp2
      have VC := (((V1.out.set 0 (Value.string ByteArray.empty)).set 1 (Value.slice none 0 0)).set 2 (Value.bool false)).set 3 (Value.slice none 0 0)
      obtain ⟨i9, hi9, _, hs8, _⟩ := info_parts infoFunction
      refine bodyPost_ret (results_row2 rfl _ _ (w.heap.size + 1) #[.string ByteArray.empty, .slice none 0 0, .bool false, .slice none 0 0] rfl rfl VC Tryz.underlying41 rfl (by rw [hi9, Option.map_some, hs8]; rfl)) rfl ?_
      rw [HR.out]
      have key : ∀ {u : World}, Mod w.heap.size (w.heap.size + 2) wr u → OwnR fn w.heap.size u.heap.size u [.string ByteArray.empty, .slice none 0 0, .bool false, .slice none 0 0] zeroF ∧ Below w.heap.size w u := fun {u} hm => by
        have hs := hm.size
        have h5 := HBB.out.size
        exact ⟨own_zero (by omega), below_mod HBB.out hm (Nat.le_refl _) HBB.out.size⟩
      refine ⟨none, 0, none, 0, rfl, key ?_⟩
      repeat (first | with_reducible exact Mod.refl _ _ _ | refine Mod.trans ?_ (Mod.set _ (by first | omega | (simp; done) | (simp; omega)) (by first | omega | (simp; done) | (simp; omega)) _))
end ProgS
end Go.Proofs.YtbdpohcababccaaGreat
