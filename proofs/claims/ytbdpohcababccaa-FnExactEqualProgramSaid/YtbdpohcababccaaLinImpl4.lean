import Derived.Test.YtbdpohcababccaaLinImpl
import Derived.Test.YtbdpohcababccaaArrEq
import Derived.Laws.CopyOwn
import Derived.Deep.RegionHeld3
/-
  The program's linear expressions: equality.
-/
namespace Go.Proofs.Ytbdpohcababccaa
open Go.RowKit
namespace LinI
open RowK LinM ArithM

/-- The first eight numbers, with zeros behind. -/
def l8 (zs : List Int) : List Int := [zs.getD 0 0, zs.getD 1 0, zs.getD 2 0, zs.getD 3 0, zs.getD 4 0, zs.getD 5 0, zs.getD 6 0, zs.getD 7 0]
def arr8 (zs : List Int) : List Value := (l8 zs).map (Value.int .i64)
theorem l8_len (zs : List Int) : (l8 zs).length = 8 := rfl
theorem l8_eq {zs us : List Int} (k : Nat) (h : l8 (zs.drop k) = l8 (us.drop k)) (hp : ∀ j, j < k → zs.getD j 0 = us.getD j 0) : ∀ j, j < k + 8 → zs.getD j 0 = us.getD j 0 := fun j hj => by
  simp only [l8, drop_getD, List.cons.injEq] at h
  by_cases h1 : j < k
  · exact hp j h1
  · obtain ⟨i, rfl⟩ : ∃ i, j = k + i := ⟨j - k, by omega⟩
    have hi : i = 0 ∨ i = 1 ∨ i = 2 ∨ i = 3 ∨ i = 4 ∨ i = 5 ∨ i = 6 ∨ i = 7 := by omega
    rcases hi with rfl | rfl | rfl | rfl | rfl | rfl | rfl | rfl
    · exact h.1
    · exact h.2.1
    · exact h.2.2.1
    · exact h.2.2.2.1
    · exact h.2.2.2.2.1
    · exact h.2.2.2.2.2.1
    · exact h.2.2.2.2.2.2.1
    · exact h.2.2.2.2.2.2.2.1
theorem splice8 (zs : List Int) : splice [.int .i64 0, .int .i64 0, .int .i64 0, .int .i64 0, .int .i64 0, .int .i64 0, .int .i64 0, .int .i64 0] 0 (IntK.iv (zs.take 8)) = arr8 zs := by
  unfold arr8 l8 splice IntK.iv
  rcases zs with _ | ⟨a, zs⟩; · rfl
  rcases zs with _ | ⟨a, zs⟩; · rfl
  rcases zs with _ | ⟨a, zs⟩; · rfl
  rcases zs with _ | ⟨a, zs⟩; · rfl
  rcases zs with _ | ⟨a, zs⟩; · rfl
  rcases zs with _ | ⟨a, zs⟩; · rfl
  rcases zs with _ | ⟨a, zs⟩; · rfl
  rcases zs with _ | ⟨a, zs⟩; · rfl
  simp

set_option maxHeartbeats 1000000 in
set_option maxRecDepth 100000 in
theorem arrayOf (lo hi : Nat) (A : Option Addr) (c : Nat) (zs : List Int) (w : World) (hA : Row lo hi w A (IntK.iv zs)) (hl : zs.length ≤ 1000000000) :
    Calls Try.prog 53 #[.slice A zs.length c] w fun e w' => e = .returned (.agg (arr8 zs).toArray) ∧ Below w.heap.size w w' := by
  have hfin := Lib.hid (splice8 zs)
  have hXl : (IntK.iv (zs.take 8)).length = Nat.min zs.length 8 := by rw [IntK.iv_len, List.length_take, Nat.min_comm]
  have hX8 : (IntK.iv (zs.take 8)).length ≤ 8 := by rw [IntK.iv_len, List.length_take]; omega
  have hX1 : ∀ v ∈ IntK.iv (zs.take 8), v.oneCell' = true := by
    intro v hv
    simp only [IntK.iv, List.mem_map] at hv
    obtain ⟨x, _, rfl⟩ := hv
    rfl
  have hXs : 0 < (IntK.iv (zs.take 8)).length → ∃ ad, A = some ad ∧ ∀ j v, (IntK.iv (zs.take 8))[j]? = some v → w.cell? (ad.add j) = some v ∧ (ad.add j).block < w.heap.size := fun h0 => by
    have hne : IntK.iv zs ≠ [] := by
      intro e
      have e' : zs = [] := by simpa [IntK.iv] using e
      rw [e'] at h0
      simp [IntK.iv] at h0
    obtain ⟨b, o, e, hb, hc⟩ := hA hne
    refine ⟨_, e, fun j v hj => ?_⟩
    rw [show ({ block := b, off := o } : Addr).add j = ⟨b, o + j, none⟩ by unfold Addr.add; split <;> simp_all]
    refine ⟨hc j v ?_, by show b < _; omega⟩
    have ht : IntK.iv (zs.take 8) = (IntK.iv zs).take 8 := by simp [IntK.iv, List.map_take]
    rw [ht, List.getElem?_take] at hj
    split at hj
    · exact hj
    · cases hj
  generalize IntK.iv (zs.take 8) = X at *
  have HXl := Lib.hid hXl
  have HX8 := Lib.hid hX8
  have HX1 := Lib.hid hX1
  have HXs := Lib.hid hXs
  clear hXl hX8 hX1 hXs hA
  generalize harr : arr8 zs = Y at *
  have HY := Lib.hid harr
  clear harr
  have hu := Try.underlying85
  have hsz : (Try.prog.info? 3).map (·.size) = some 1 := by kernel_rfl
  have HU := Lib.hid hu
  have HSZ := Lib.hid hsz
  clear hu hsz
  have hrun : ∃ W', (Builtin.copy_ #[85, 85] 3 #[.slice (some ⟨w.heap.size + 1, 0, none⟩) 8 8, .slice A zs.length c]).run Try.prog ((w.alloc (Obj.cells #[.int .i64 0, .int .i64 0, .int .i64 0, .int .i64 0, .int .i64 0, .int .i64 0, .int .i64 0, .int .i64 0] 108)).alloc (Obj.cells #[.int .i64 0, .int .i64 0, .int .i64 0, .int .i64 0, .int .i64 0, .int .i64 0, .int .i64 0, .int .i64 0] 108)) = .ok (goInt X.length) W' ∧ Lvar W' (w.heap.size + 1) Y.toArray ∧ Below (w.heap.size + 1) ((w.alloc (Obj.cells #[.int .i64 0, .int .i64 0, .int .i64 0, .int .i64 0, .int .i64 0, .int .i64 0, .int .i64 0, .int .i64 0] 108)).alloc (Obj.cells #[.int .i64 0, .int .i64 0, .int .i64 0, .int .i64 0, .int .i64 0, .int .i64 0, .int .i64 0, .int .i64 0] 108)) W' := by
    have hg := heap_alloc_new (w.alloc (Obj.cells #[.int .i64 0, .int .i64 0, .int .i64 0, .int .i64 0, .int .i64 0, .int .i64 0, .int .i64 0, .int .i64 0] 108)) (Obj.cells #[.int .i64 0, .int .i64 0, .int .i64 0, .int .i64 0, .int .i64 0, .int .i64 0, .int .i64 0, .int .i64 0] 108)
    rw [World.size_alloc] at hg
    rw [← hfin.out]
    by_cases h0 : 0 < X.length
    · obtain ⟨ad, rfl, h⟩ := HXs.out h0
      have hr := run_copy_row (P := Try.prog) ((w.alloc (Obj.cells #[.int .i64 0, .int .i64 0, .int .i64 0, .int .i64 0, .int .i64 0, .int .i64 0, .int .i64 0, .int .i64 0] 108)).alloc (Obj.cells #[.int .i64 0, .int .i64 0, .int .i64 0, .int .i64 0, .int .i64 0, .int .i64 0, .int .i64 0, .int .i64 0] 108)) 85 85 3 3 (w.heap.size + 1) 0 8 8 ad zs.length c #[.int .i64 0, .int .i64 0, .int .i64 0, .int .i64 0, .int .i64 0, .int .i64 0, .int .i64 0, .int .i64 0] 108 X HU.out HSZ.out hg HXl.out (fun j v hj => by
        rw [World.cell?_alloc_lt _ _ _ (by have := (h j v hj).2; simp; omega), World.cell?_alloc_lt _ _ _ (h j v hj).2]
        exact (h j v hj).1) (by simpa using HX8.out) HX1.out
      exact ⟨_, hr, ⟨_, by simpa [splice] using setRow_heap _ _ _ _ _ _ hg⟩, below_setRow (Below.refl _ _) (Nat.le_refl _) _⟩
    · have h0' : X = [] := List.eq_nil_of_length_eq_zero (by omega)
      have hr := run_copy_none (P := Try.prog) ((w.alloc (Obj.cells #[.int .i64 0, .int .i64 0, .int .i64 0, .int .i64 0, .int .i64 0, .int .i64 0, .int .i64 0, .int .i64 0] 108)).alloc (Obj.cells #[.int .i64 0, .int .i64 0, .int .i64 0, .int .i64 0, .int .i64 0, .int .i64 0, .int .i64 0, .int .i64 0] 108)) 85 85 3 3 (some ⟨w.heap.size + 1, 0, none⟩) A 8 8 zs.length c HU.out HSZ.out (by rw [← HXl.out]; omega)
      rw [h0']
      exact ⟨_, hr, ⟨_, by simpa [splice] using hg⟩, Below.refl _ _⟩
  obtain ⟨W', hrun, hW, hbW⟩ := hrun
  have HW := Lib.hid hW
  have HB := Lib.hid hbW
  have HR := Lib.hid ((Lvar.new w #[.int .i64 0, .int .i64 0, .int .i64 0, .int .i64 0, .int .i64 0, .int .i64 0, .int .i64 0, .int .i64 0] 108).alloc (Obj.cells #[.int .i64 0, .int .i64 0, .int .i64 0, .int .i64 0, .int .i64 0, .int .i64 0, .int .i64 0, .int .i64 0] 108))
  clear hW hbW hfin HXl HX8 HX1 HXs
  obtain ⟨y0, y1, y2, y3, y4, y5, y6, y7, rfl⟩ : ∃ y0 y1 y2 y3 y4 y5 y6 y7 : Int, Y = [.int .i64 y0, .int .i64 y1, .int .i64 y2, .int .i64 y3, .int .i64 y4, .int .i64 y5, .int .i64 y6, .int .i64 y7] := ⟨_, _, _, _, _, _, _, _, HY.out.symm⟩
  have RW : Hid (Lvar W' w.heap.size #[.int .i64 0, .int .i64 0, .int .i64 0, .int .i64 0, .int .i64 0, .int .i64 0, .int .i64 0, .int .i64 0]) := Lib.hid (by
    obtain ⟨T, h⟩ := HR.out
    exact ⟨T, by rw [HB.out.block _ (Nat.lt_succ_self _)]; exact h⟩)
  have c0 := HW.out.cell 0 (.int .i64 y0) rfl
  have c1 := HW.out.cell 1 (.int .i64 y1) rfl
  have c2 := HW.out.cell 2 (.int .i64 y2) rfl
  have c3 := HW.out.cell 3 (.int .i64 y3) rfl
  have c4 := HW.out.cell 4 (.int .i64 y4) rfl
  have c5 := HW.out.cell 5 (.int .i64 y5) rfl
  have c6 := HW.out.cell 6 (.int .i64 y6) rfl
  have c7 := HW.out.cell 7 (.int .i64 y7) rfl
  have r0 := RW.out.cell 0 (.int .i64 0) rfl
  have p0 := RW.out.frozen 0
  have r1 := RW.out.cell 1 (.int .i64 0) rfl
  have p1 := RW.out.frozen 1
  have r2 := RW.out.cell 2 (.int .i64 0) rfl
  have p2 := RW.out.frozen 2
  have r3 := RW.out.cell 3 (.int .i64 0) rfl
  have p3 := RW.out.frozen 3
  have r4 := RW.out.cell 4 (.int .i64 0) rfl
  have p4 := RW.out.frozen 4
  have r5 := RW.out.cell 5 (.int .i64 0) rfl
  have p5 := RW.out.frozen 5
  have r6 := RW.out.cell 6 (.int .i64 0) rfl
  have p6 := RW.out.frozen 6
  have r7 := RW.out.cell 7 (.int .i64 0) rfl
  have p7 := RW.out.frozen 7
  have hbb := Lib.hid ((((Below.refl w.heap.size w).alloc (Nat.le_refl _) (Obj.cells #[.int .i64 0, .int .i64 0, .int .i64 0, .int .i64 0, .int .i64 0, .int .i64 0, .int .i64 0, .int .i64 0] 108)).alloc (by simp) (Obj.cells #[.int .i64 0, .int .i64 0, .int .i64 0, .int .i64 0, .int .i64 0, .int .i64 0, .int .i64 0, .int .i64 0] 108)).trans (HB.out.mono (by omega)))
  clear HB HR HY
  go_enter Try.func53, Try.ntmps53
  go_wp2_with fail
  exact bodyPost_ret (v := .agg #[.int .i64 y0, .int .i64 y1, .int .i64 y2, .int .i64 y3, .int .i64 y4, .int .i64 y5, .int .i64 y6, .int .i64 y7]) (by simp [results, Try.results53, go_sem, r0, r1, r2, r3, r4, r5, r6, r7]) rfl ⟨rfl, ((((((((hbb.out.setCell (p := ⟨w.heap.size, 0, none⟩) (Nat.le_refl _) (.int .i64 y0)).setCell (p := ⟨w.heap.size, 1, none⟩) (Nat.le_refl _) (.int .i64 y1)).setCell (p := ⟨w.heap.size, 2, none⟩) (Nat.le_refl _) (.int .i64 y2)).setCell (p := ⟨w.heap.size, 3, none⟩) (Nat.le_refl _) (.int .i64 y3)).setCell (p := ⟨w.heap.size, 4, none⟩) (Nat.le_refl _) (.int .i64 y4)).setCell (p := ⟨w.heap.size, 5, none⟩) (Nat.le_refl _) (.int .i64 y5)).setCell (p := ⟨w.heap.size, 6, none⟩) (Nat.le_refl _) (.int .i64 y6)).setCell (p := ⟨w.heap.size, 7, none⟩) (Nat.le_refl _) (.int .i64 y7))⟩

set_option maxHeartbeats 1000000 in
set_option maxRecDepth 100000 in
theorem equal (lo hi lo' hi' : Nat) (z u : Int) (A B : Option Addr) (c d : Nat) (zs us : List Int) (w : World) (hA : Row lo hi w A (IntK.iv zs)) (hB : Row lo' hi' w B (IntK.iv us)) (hl : zs.length ≤ 1000000000) (hl2 : us.length ≤ 1000000000) (hc : zs.length ≤ c) (hd : us.length ≤ d) :
    Calls Try.prog 31 #[.agg #[.int .i64 z, .slice A zs.length c], .agg #[.int .i64 u, .slice B us.length d]] w fun e w' => e = .returned (.bool (eqB z u zs us)) ∧ Below w.heap.size w w' := by
  have bb : Below w.heap.size w ((w.alloc (Obj.cells #[Value.int IntKind.i64 z, Value.slice A zs.length c] 87)).alloc (Obj.cells #[Value.int IntKind.i64 u, Value.slice B us.length d] 87)) := ((Below.refl _ _).alloc (Nat.le_refl _) _).alloc (by simp) _
  have BB := Lib.hid bb
  have L1 := Lib.hid (((Lvar.new w #[Value.int IntKind.i64 z, Value.slice A zs.length c] 87).alloc (Obj.cells #[Value.int IntKind.i64 u, Value.slice B us.length d] 87)))
  have L2 := Lib.hid ((Lvar.new (w.alloc (Obj.cells #[Value.int IntKind.i64 z, Value.slice A zs.length c] 87)) #[Value.int IntKind.i64 u, Value.slice B us.length d] 87))
  simp only [World.size_alloc] at L2
  clear bb
  by_cases h1 : z = u
  · subst h1
    by_cases h2 : zs.length = us.length
    · have hT := Lib.hid (fun (h : zs = us) => eqB_true (z := z) rfl h)
      have hF := Lib.hid (fun (h : zs ≠ us) => eqB_false (z := z) (u := z) (Or.inr h))
      have H2 := Lib.hid h2
      have hne : ((zs.length : Int) != (us.length : Int)) = false := by simp [h2]
      clear h2
      generalize eqB z z zs us = R at *
      go_enter Try.func31, Try.ntmps31
      go_wp2
      go_loopw [5] (fun i wr => ∃ k : Nat, k ≤ zs.length + 8 ∧ i = .int .i64 k ∧ (∀ j, j < k → zs.getD j 0 = us.getD j 0) ∧ Below (w.heap.size + 2) ((w.alloc (Obj.cells #[Value.int IntKind.i64 z, Value.slice A zs.length c] 87)).alloc (Obj.cells #[Value.int IntKind.i64 z, Value.slice B us.length d] 87)) wr) (fun i _ => zs.length + 8 - (intOf i).toNat)
      case atStart => exact ⟨0, Nat.zero_le _, rfl, fun j h => by omega, Below.refl _ _⟩
      case round =>
        obtain ⟨k, hk, rfl, hpre, hb⟩ := hrel
        have HP := Lib.hid hpre
        have HB := Lib.hid hb
        have hsz := hb.size
        simp only [World.size_alloc] at hsz
        clear hpre hb
        have BW := Lib.hid (BB.out.trans (HB.out.mono (by omega)))
        have Q1 := Lib.hid (L1.out.below (w' := wr) (HB.out.mono (by simp)))
        have Q2 := Lib.hid (L2.out.below (w' := wr) (HB.out.mono (by simp)))
        have q1 := Q1.out.cell 1 (.slice A zs.length c) rfl
        by_cases hlt : k < zs.length
        · have hlt2 : k < us.length := by rw [← H2.out]; exact hlt
          obtain ⟨ba, oa, ea, hba, ha⟩ := IntK.at_below hA BW.out hlt
          obtain ⟨bb, ob, eb, hbb, hb⟩ := IntK.at_below hB BW.out hlt2
          subst ea; subst eb
          have q2 := Q2.out.cell 1 (.slice (some ⟨bb, ob, none⟩) us.length d) rfl
          have ARA := Lib.hid (fun W (h : Below w.heap.size w W) => by
            have := arrayOf lo hi (some ⟨ba, oa + k, none⟩) (c - k) (zs.drop k) W (by simpa [IntK.iv, List.map_drop] using (hA.below h).drop k) (by simp; omega)
            rwa [List.length_drop] at this)
          have ARB := Lib.hid (fun W (h : Below w.heap.size w W) => by
            have := arrayOf lo' hi' (some ⟨bb, ob + k, none⟩) (d - k) (us.drop k) W (by simpa [IntK.iv, List.map_drop] using (hB.below h).drop k) (by simp; omega)
            rwa [List.length_drop] at this)
          have hk0 : (0 : Int) ≤ (k : Int) := by omega
          have hk1 : (k : Int) ≤ (zs.length : Int) := by omega
          have hk2 : (k : Int) ≤ (us.length : Int) := by omega
          have hk3 : k ≤ zs.length := by omega
          have hk4 : k ≤ us.length := by omega
          have hk5 : ¬ c = k := by omega
          have hk6 : ¬ d = k := by omega
          have hnx := Lib.hid (l8_eq (zs := zs) (us := us) k)
          have heq := Lib.hid (fun W => eq8 (l8 (zs.drop k)) (l8 (us.drop k)) (l8_len _) (l8_len _) W)
          have hne2 := Lib.hid (show l8 (zs.drop k) ≠ l8 (us.drop k) → zs ≠ us from fun h e => h (by rw [e]))
          clear ha hb
          unfold arr8 at ARA ARB
          generalize l8 (zs.drop k) = X at *
          generalize l8 (us.drop k) = Y at *
          by_cases hq : X = Y
          · have hq' := Lib.hid (hnx.out hq HP.out)
            have he : ∀ W, (Op.equalIn 10000 108 (.agg (X.map (Value.int .i64)).toArray) (.agg (Y.map (Value.int .i64)).toArray)).run Try.prog W = .ok true W := fun W => by rw [heq.out W]; simp [hq]
            clear hnx heq hne2 hq
            generalize (X.map (Value.int .i64)).toArray = XX at *
            generalize (Y.map (Value.int .i64)).toArray = YY at *
            go_wp2_with fail
            go_region_held3 (fun w' => w'.cell? ⟨w.heap.size, 1, none⟩ = some (.slice (some ⟨ba, oa, none⟩) zs.length c) ∧ w'.cell? ⟨w.heap.size + 1, 1, none⟩ = some (.slice (some ⟨bb, ob, none⟩) us.length d))
              (first | (refine ⟨?_, ?_⟩ <;> (rw [b7.cell (by simp; omega), b6.cell (by simp; omega)]; simp; assumption)) | (refine ⟨?_, ?_⟩ <;> (rw [b6.cell (by simp; omega)]; simp; assumption)) | go_keep)
              (first
                | (go_at_call_of 53 (Value.slice (some ⟨ba, oa + k, none⟩) (zs.length - k) (c - k)); refine (Calls.mono (ARA.out _ ?_)) ?_; exact BW.out.drew; rintro e w6 ⟨rfl, b6⟩; (have h6 : wr.heap.size ≤ w6.heap.size := b6.size))
                | (go_at_call_of 53 (Value.slice (some ⟨bb, ob + k, none⟩) (us.length - k) (d - k)); refine (Calls.mono (ARB.out _ ?_)) ?_; exact BW.out.drew.trans (b6.mono (by simp; omega)); rintro e w7 ⟨rfl, b7⟩))
            have B7 := Lib.hid ((HB.out.trans ((Below.refl _ _).drew (w := wr))).trans ((b6.mono (show w.heap.size + 2 ≤ wr.heap.size by omega)).trans (b7.mono (show w.heap.size + 2 ≤ w6.heap.size by omega))))
            clear he b6 b7 h6 Q1 Q2 q1 q2 ARA ARB
            go_wp2
            go_roundw
            case rel => exact ⟨k + 8, by omega, by go_num, hq'.out, B7.out⟩
            case measure => simp [intOf]; omega
          · have hR := Lib.hid (hF.out (hne2.out hq))
            have he : ∀ W, (Op.equalIn 10000 108 (.agg (X.map (Value.int .i64)).toArray) (.agg (Y.map (Value.int .i64)).toArray)).run Try.prog W = .ok false W := fun W => by rw [heq.out W]; simp [hq]
            clear hnx heq hne2 hq hT hF
            generalize (X.map (Value.int .i64)).toArray = XX at *
            generalize (Y.map (Value.int .i64)).toArray = YY at *
            go_wp2_with fail
            go_region_held3 (fun w' => w'.cell? ⟨w.heap.size, 1, none⟩ = some (.slice (some ⟨ba, oa, none⟩) zs.length c) ∧ w'.cell? ⟨w.heap.size + 1, 1, none⟩ = some (.slice (some ⟨bb, ob, none⟩) us.length d))
              (first | (refine ⟨?_, ?_⟩ <;> (rw [b7.cell (by simp; omega), b6.cell (by simp; omega)]; simp; assumption)) | (refine ⟨?_, ?_⟩ <;> (rw [b6.cell (by simp; omega)]; simp; assumption)) | go_keep)
              (first
                | (go_at_call_of 53 (Value.slice (some ⟨ba, oa + k, none⟩) (zs.length - k) (c - k)); refine (Calls.mono (ARA.out _ ?_)) ?_; exact BW.out.drew; rintro e w6 ⟨rfl, b6⟩; (have h6 : wr.heap.size ≤ w6.heap.size := b6.size))
                | (go_at_call_of 53 (Value.slice (some ⟨bb, ob + k, none⟩) (us.length - k) (d - k)); refine (Calls.mono (ARB.out _ ?_)) ?_; exact BW.out.drew.trans (b6.mono (by simp; omega)); rintro e w7 ⟨rfl, b7⟩))
            have B7 := Lib.hid ((BW.out.trans ((Below.refl _ _).drew (w := wr))).trans ((b6.mono (show w.heap.size ≤ wr.heap.size by omega)).trans (b7.mono (show w.heap.size ≤ w6.heap.size by omega))))
            clear he b6 b7 h6 Q1 Q2 q1 q2 ARA ARB
            go_wp2
            go_ret
            exact ⟨ArithI.ret_bool hR.out.symm, B7.out⟩
        · have hR := Lib.hid (hT.out (ext_getD H2.out k (by omega) HP.out))
          clear hT hF
          go_wp2
          go_ret
          exact ⟨ArithI.ret_bool hR.out.symm, BW.out⟩
    · have hne : ((zs.length : Int) != (us.length : Int)) = true := by simp; omega
      rw [eqB_false (Or.inr (fun e => h2 (by rw [e])))]
      clear h2
      go_enter Try.func31, Try.ntmps31
      go_wp2
      go_ret
      exact ⟨rfl, BB.out⟩
  · have hne : (z != u) = true := by simpa using h1
    rw [eqB_false (Or.inl h1)]
    clear h1
    go_enter Try.func31, Try.ntmps31
    go_wp2
    go_ret
    exact ⟨rfl, BB.out⟩
end LinI
end Go.Proofs.Ytbdpohcababccaa
