import Derived.Test.YtiilopfhlmeaoaaGreatDoorArgSpec
import Derived.Test.YtiilopfhlmeaoaaGreatDoorArgFmt
import Derived.Test.YtiilopfhlmeaoaaGreatDoorTextFmtS
import Derived.Test.YtiilopfhlmeaoaaGreatDoorRepGen
import Derived.Deep.AppendLies
import Derived.Test.YtiilopfhlmeaoaaGreatDoorArgMath2
import Derived.Test.YtiilopfhlmeaoaaGreatDoorTextCons
/-
  The model's FormatSum: the representation of a valid sum.
-/
namespace Go.Proofs.YtiilopfhlmeaoaaGreatDoor
open Go.RowKit
namespace ArgP
open RowK Mem ArgM ArgI TextM

theorem strInfo9 : (Tryz.prog.info? 9).map (fun i => (i.zero, i.size, i.bytes)) = some (some (.string ByteArray.empty), 1, 16) := by kernel_rfl
/-- The names and the coefficients so far: v, u: the two slices; L: the expression's block, between the names' first block and all others. -/
def Lots (w : World) (z : Int) (A : Option Addr) (c n k : Nat) (ts : List (Int × ByteArray)) (v u : Value) (wr : World) : Prop :=
  wr.ownsRow (w.heap.size + 2) 9 1 v k ((nms (z, ts.take k)).map Value.string) ∧ wr.ownsRow (w.heap.size + 4) 3 1 u k (IntK.iv (cfs (z, ts.take k))) ∧
    v.ownBlock ≠ some (w.heap.size + 3) ∧ (∀ g, v.ownBlock = some g → u.ownBlock ≠ some g) ∧
    Lvar wr w.heap.size #[.int .i64 z, .slice A n c] ∧ Lvar wr (w.heap.size + 1) #[.int .i64 0, .slice none 0 0] ∧ Lvar wr (w.heap.size + 3) #[.int .i64 z, u] ∧ Below w.heap.size w wr
theorem Lots.name {w wr w1 : World} {z : Int} {A : Option Addr} {c n k : Nat} {ts : List (Int × ByteArray)} {v u v1 : Value} {nm : ByteArray} {T : TypeId} (h : Lots w z A c n k ts v u wr)
    (_ho : w1.ownsRow (w.heap.size + 2) 9 1 v1 (k + 1) ((nms (z, ts.take k)).map Value.string ++ [.string nm])) (hg : (wr.alloc (.cells #[Value.string nm] T)).grownBy w1 v.ownBlock) (hw : v1.ownBlock = v.ownBlock ∨ ∀ g, v1.ownBlock = some g → (wr.alloc (.cells #[Value.string nm] T)).heap.size ≤ g) :
    w1.ownsRow (w.heap.size + 4) 3 1 u k (IntK.iv (cfs (z, ts.take k))) ∧ v1.ownBlock ≠ some (w.heap.size + 3) ∧ (∀ g, v1.ownBlock = some g → u.ownBlock ≠ some g) ∧
    Lvar w1 w.heap.size #[.int .i64 z, .slice A n c] ∧ Lvar w1 (w.heap.size + 1) #[.int .i64 0, .slice none 0 0] ∧ Lvar w1 (w.heap.size + 3) #[.int .i64 z, u] ∧ Below w.heap.size w w1 := by
  obtain ⟨h1, h2, h3, h4, h5, h6, h7, h8⟩ := h
  have hlt := h7.lt
  have hs := h8.size
  refine ⟨(h2.alloc _).kept hg ?_, ?_, ?_, lvar_grown (h5.alloc _) hg (fun e => by have := (h1.lt _ e).1; omega), lvar_grown (h6.alloc _) hg (fun e => by have := (h1.lt _ e).1; omega), lvar_grown (h7.alloc _) hg h3, (h8.alloc hs _).grown hg (by simp; omega) (fun j hj => by have := (h1.lt j hj).1; omega)⟩
  · by_cases hu : u.ownBlock = none
    · exact Or.inl hu
    · refine Or.inr fun e => ?_
      cases hv : v.ownBlock with
      | none => exact hu (by rw [e, hv])
      | some g => exact h4 g hv (by rw [e, hv])
  · intro e
    rcases hw with hw | hw
    · exact h3 (by rw [← hw]; exact e)
    · have := hw _ e
      simp at this
      omega
  · intro g e e2
    rcases hw with hw | hw
    · exact h4 g (by rw [← hw]; exact e) e2
    · have h9 := hw _ e
      have h10 := (h2.lt _ e2).2
      simp at h9
      omega
theorem Lots.coef {w w1 Wd w5 : World} {z x : Int} {A A5 : Option Addr} {c c5 n k : Nat} {ts : List (Int × ByteArray)} {v1 u : Value} {nm : ByteArray} (ht : ts.take (k + 1) = ts.take k ++ [(x, nm)])
    (ho : w1.ownsRow (w.heap.size + 2) 9 1 v1 (k + 1) ((nms (z, ts.take k)).map Value.string ++ [.string nm])) (h2 : v1.ownBlock ≠ some (w.heap.size + 3)) (h3 : ∀ g, v1.ownBlock = some g → u.ownBlock ≠ some g)
    (h4 : Lvar w1 w.heap.size #[.int .i64 z, .slice A n c]) (h5 : Lvar w1 (w.heap.size + 1) #[.int .i64 0, .slice none 0 0]) (h6 : Lvar w1 (w.heap.size + 3) #[.int .i64 z, u]) (h7 : Below w.heap.size w w1) (hd : Below w1.heap.size w1 Wd)
    (o5 : w5.ownsRow (w.heap.size + 4) 3 1 (.slice A5 (k + 1) c5) (k + 1) (IntK.iv (cfs (z, ts.take k)) ++ [.int .i64 x])) (hg : Wd.grownBy w5 u.ownBlock) (hu : ∀ g, u.ownBlock = some g → w.heap.size + 4 ≤ g)
    (hw : (Value.slice A5 (k + 1) c5).ownBlock = u.ownBlock ∨ ∀ g, (Value.slice A5 (k + 1) c5).ownBlock = some g → Wd.heap.size ≤ g) :
    Lots w z A c n (k + 1) ts v1 (.slice A5 (k + 1) c5) (w5.setCell ⟨w.heap.size + 3, 1, none⟩ (.slice A5 (k + 1) c5)) := by
  have hs := h7.size
  have hs1 := hd.size
  have e1 : (nms (z, ts.take (k + 1))).map Value.string = (nms (z, ts.take k)).map Value.string ++ [.string nm] := by simp [nms, ht]
  have e2 : IntK.iv (cfs (z, ts.take (k + 1))) = IntK.iv (cfs (z, ts.take k)) ++ [.int .i64 x] := by simp [cfs, ht, IntK.iv]
  have hne : ∀ b, b < w.heap.size + 4 → u.ownBlock ≠ some b := fun b hb e => by have := hu b e; omega
  have N1 := ho.kept (StrK.only_below hd none) (by by_cases hv : v1.ownBlock = none; exact Or.inl hv; exact Or.inr hv)
  have N2 := N1.kept hg (by
    by_cases hv : v1.ownBlock = none
    · exact Or.inl hv
    · refine Or.inr fun e => ?_
      cases hv' : v1.ownBlock with
      | none => exact hv hv'
      | some g => exact h3 g hv' (by rw [← e, hv']))
  have N3 := N2.kept (StrK.only_set w5 (w.heap.size + 3) 1 (.slice A5 (k + 1) c5)) (by
    by_cases hv : v1.ownBlock = none
    · exact Or.inl hv
    · exact Or.inr (by simpa using h2))
  have C1 := o5.kept (StrK.only_set w5 (w.heap.size + 3) 1 (.slice A5 (k + 1) c5)) (by
    by_cases hv : (Value.slice A5 (k + 1) c5).ownBlock = none
    · exact Or.inl hv
    · refine Or.inr fun e => ?_
      have := (o5.lt (w.heap.size + 3) (by simpa using e)).1
      omega)
  have L4 := lvar_grown (h4.below hd) hg (hne _ (by omega))
  have L5 := lvar_grown (h5.below hd) hg (hne _ (by omega))
  have L6 := lvar_grown (h6.below hd) hg (hne _ (by omega))
  have B5 : Below w.heap.size w w5 := (h7.trans (hd.mono hs)).grown hg (by omega) (fun j hj => by have := hu j hj; omega)
  refine ⟨by rw [e1]; exact N3, by rw [e2]; exact C1, h2, fun g e e' => ?_, L4.other (p := ⟨w.heap.size + 3, 1, none⟩) (by show w.heap.size ≠ w.heap.size + 3; omega) _, L5.other (p := ⟨w.heap.size + 3, 1, none⟩) (by show w.heap.size + 1 ≠ w.heap.size + 3; omega) _, by simpa using L6.set 1 (.slice A5 (k + 1) c5), B5.setCell (p := ⟨w.heap.size + 3, 1, none⟩) (by show w.heap.size ≤ w.heap.size + 3; omega) _⟩
  rcases hw with hw | hw
  · exact h3 g e (by rw [← hw]; exact e')
  · have h8 := hw g e'
    have h9 := (ho.lt g e).2
    omega
def NamesLin (w : World) (z : Int) (ts : List (Int × ByteArray)) (e : Ending) (w' : World) : Prop :=
  ∃ A c G cg lo hi, e = .returned (.tuple #[.slice A ts.length c, .agg #[.int .i64 z, .slice G ts.length cg]]) ∧ StrK.SRow w' A (nms (z, ts)) ∧ ts.length ≤ c ∧ Row lo hi w' G (IntK.iv (cfs (z, ts))) ∧ Below w.heap.size w w'

theorem srow_keep {lo hi : Nat} {w w' : World} {A : Option Addr} {ss : List ByteArray} (h : StrK.SRow w A ss) (ha : ∀ a, A = some a → hi ≤ a.block) (hm : Mod lo hi w w') : StrK.SRow w' A ss := fun hn => by
  obtain ⟨b, o, rfl, hlt, hc⟩ := h hn
  exact ⟨b, o, rfl, Nat.lt_of_lt_of_le hlt hm.size, fun j s hj => by rw [World.cell?_of_block (w := w) (hm.block b hlt (Or.inr (ha _ rfl)))]; exact hc j s hj⟩

set_option maxHeartbeats 1000000 in
set_option maxRecDepth 100000 in
theorem l9names (z : Int) (A : Option Addr) (c : Nat) (ts : List (Int × ByteArray)) (w : World) (hA : ArgS term w A ts.length c ts) (hl : ts.length ≤ 1000000000) :
    Calls Tryz.prog 47 #[.agg #[.int .i64 z, .slice A ts.length c]] w (NamesLin w z ts) := by
  obtain ⟨i0, hi, hz0, hz1, hz2⟩ := info_parts strInfo9
  obtain ⟨j0, hj, hy0, hy1, hy2⟩ := info_parts IntK.intInfo
  have HJ := Lib.hid hj
  have HY0 := Lib.hid hy0
  have HY1 := Lib.hid hy1
  have HY2 := Lib.hid hy2
  have hu := Lib.hid Tryz.underlying67
  clear hj hy0 hy1 hy2
  have HA := Lib.hid hA
  have W1 : ∃ W1, W1 = (w.alloc (Obj.cells #[Value.int .i64 z, Value.slice A ts.length c] 50)).alloc (Obj.cells #[Value.int .i64 0, Value.slice none 0 0] 82) := ⟨_, rfl⟩
  have L0 := Lib.hid (show Lots w z A c ts.length 0 ts (.slice (some ⟨w.heap.size + 2, 0, none⟩) 0 0) (.slice none 0 0) ((((w.alloc (Obj.cells #[Value.int .i64 z, Value.slice A ts.length c] 50)).alloc (Obj.cells #[Value.int .i64 0, Value.slice none 0 0] 82)).alloc (Obj.cells #[] 9)).alloc (Obj.cells #[Value.int .i64 z, Value.slice none 0 0] 82)) from by
    have e1 : ((w.alloc (Obj.cells #[Value.int .i64 z, Value.slice A ts.length c] 50)).alloc (Obj.cells #[Value.int .i64 0, Value.slice none 0 0] 82)).heap.size = w.heap.size + 2 := by simp
    have hA1 := (((Lvar.new w #[Value.int .i64 z, Value.slice A ts.length c] 50).alloc (Obj.cells #[Value.int .i64 0, Value.slice none 0 0] 82)).alloc (Obj.cells #[] 9)).alloc (Obj.cells #[Value.int .i64 z, Value.slice none 0 0] 82)
    have hB1 := ((Lvar.new (w.alloc (Obj.cells #[Value.int .i64 z, Value.slice A ts.length c] 50)) #[Value.int .i64 0, Value.slice none 0 0] 82).alloc (Obj.cells #[] 9)).alloc (Obj.cells #[Value.int .i64 z, Value.slice none 0 0] 82)
    have hC1 := Lvar.new (((w.alloc (Obj.cells #[Value.int .i64 z, Value.slice A ts.length c] 50)).alloc (Obj.cells #[Value.int .i64 0, Value.slice none 0 0] 82)).alloc (Obj.cells #[] 9)) #[Value.int .i64 z, Value.slice none 0 0] 82
    have hD1 := heap_alloc_new ((w.alloc (Obj.cells #[Value.int .i64 z, Value.slice A ts.length c] 50)).alloc (Obj.cells #[Value.int .i64 0, Value.slice none 0 0] 82)) (Obj.cells #[] 9)
    rw [e1] at hD1
    simp only [World.size_alloc] at hB1 hC1
    refine ⟨⟨by simp, Or.inr ⟨w.heap.size + 2, 0, #[], rfl, Nat.le_refl _, ?_, by simp, by simp, by simp, by simp⟩⟩, World.ownsRow_nil _ _ _ _, by simp [Value.ownBlock], (fun g _ e => by simp [Value.ownBlock] at e), hA1, hB1, hC1, ((((Below.refl _ _).alloc (Nat.le_refl _) _).alloc (by simp) _).alloc (by simp; omega) _).alloc (by simp; omega) _⟩
    rw [heap_alloc_old _ _ (by simp)]
    exact hD1)
  clear W1 hA
  go_enter Tryz.func47, Tryz.ntmps47
  go_wp2
  go_loopw [4, 6] (fun v i wr => ∃ (k : Nat) (u : Value), k ≤ ts.length ∧ i = .int .i64 k ∧ Lots w z A c ts.length k ts v u wr) (fun _ i _ => ts.length - (intOf i).toNat)
  case atStart => exact ⟨0, _, Nat.zero_le _, rfl, L0.out⟩
  case round =>
    obtain ⟨k, u, hk, rfl, hLT⟩ := hrel
    have HL := Lib.hid hLT
    have l0 := hLT.2.2.2.2.1.cell 0 (.int .i64 z) rfl
    have l1 := hLT.2.2.2.2.1.cell 1 (.slice A ts.length c) rfl
    have hsz := hLT.2.2.2.2.2.2.2.size
    have hl3 := hLT.2.2.2.2.2.2.1.lt
    clear hLT L0
    by_cases hlt : k < ts.length
    · obtain ⟨b, o, rfl, hbb, c0w, c1w⟩ := HA.out.term_at hlt
      have HT := Lib.hid (take_snoc hlt)
      generalize ts[k] = t at *
      obtain ⟨x, nm⟩ := t
      simp only at c0w c1w
      have c0 := (HL.out.2.2.2.2.2.2.2.cell (p := ⟨b, o + k * 2, none⟩) hbb).trans c0w
      have c1 := (HL.out.2.2.2.2.2.2.2.cell (p := ⟨b, o + k * 2 + 1, none⟩) hbb).trans c1w
      have HC0 := Lib.hid (fun W (h : Below w.heap.size w W) => (h.cell (p := ⟨b, o + k * 2, none⟩) hbb).trans c0w)
      have hk0 : (0 : Int) ≤ (k : Int) := by omega
      have hk1 : (k : Int) < (ts.length : Int) := by omega
      have hown := HL.out.1
      clear c0w c1w
      go_wp2_with (at_builtin; refine wpList_append_where rfl (.tmp 18) (.tmp 25) 34 rfl (w.heap.size + 2) 9 i0 (.string ByteArray.empty) 1 16 Tryz.underlying34 hi hz0 hz1 hz2 rfl (by decide) _ _ _ rfl (hown.alloc _) ⟨wr.heap.size, 0, none⟩ 1 1 [.string nm] rfl rfl (cell_one_new _ _ _) (by simp [Value.oneCell']) (by unfold maxLen; omega) (by omega) (by simp; omega) ?_; intro v1 w1 hown1 hgrow1 hwh1)
      have hk4 := (HL.out.1).2
      obtain ⟨n1, n2, n3, n4, n5, n6, n7⟩ := HL.out.name hown1 hgrow1 hwh1
      have ON := Lib.hid hown1
      have OW := Lib.hid n1
      have H2 := Lib.hid n2
      have H3 := Lib.hid n3
      have V4 := Lib.hid n4
      have V5 := Lib.hid n5
      have V6 := Lib.hid n6
      have HB := Lib.hid n7
      have a1 := n4.cell 1 (.slice (some ⟨b, o, none⟩) ts.length c) rfl
      have d0 := HC0.out _ n7
      have g0 := n6.cell 0 (.int .i64 z) rfl
      have g1 := n6.cell 1 u rfl
      have hs1 := n7.size
      have hs3 := n6.lt
      have hub : u.ownBlock ≠ some (w.heap.size + 3) ∧ u.ownBlock ≠ some (w.heap.size + 1) ∧ u.ownBlock ≠ some w.heap.size := by
        refine ⟨fun e => ?_, fun e => ?_, fun e => ?_⟩ <;> (have := (OW.out.lt _ e).1; omega)
      have HUB := Lib.hid hub
      clear hk4 n1 n2 n3 n4 n5 n6 n7 hown1 hgrow1 hwh1 hown c0 c1 l0 l1 hub
      go_wp2_with fail
      go_region_law (first
        | (refine step_append_where rfl _ _ _ rfl 3 j0 (.int .i64 0) 1 8 (w.heap.size + 4) hu.out HJ.out HY0.out HY1.out HY2.out rfl (by decide) u k (IntK.iv (cfs (z, ts.take k))) rfl (by first | exact (OW.out.alloc _).drew | exact OW.out.drew.alloc _ | exact OW.out.alloc _) ⟨w1.heap.size, 0, none⟩ 1 1 [.int .i64 x] rfl rfl (by first | exact World.news_of_block (cs := #[.int .i64 x]) (heap_alloc_new w1 _) | exact World.news_of_block (cs := #[.int .i64 x]) (heap_alloc_new w1.drew _)) (by simp [Value.oneCell']) (by unfold maxLen; omega) (by omega) (by first | (simp; omega) | (simp [World.drew]; omega)) ?_; intro v5 w5 hown5 hgrow5 hwh5; (obtain ⟨A5, c5, rfl, _, _, _, _⟩ := RowK.of_own hown5); (have V65 := (show Lvar w5 (w.heap.size + 3) #[.int .i64 z, u] from by first | exact lvar_grown (V6.out.alloc (Obj.cells #[.int .i64 x] 3)) hgrow5 HUB.out.1 | exact lvar_grown ((V6.out.below (Below.refl _ _).drew).alloc (Obj.cells #[.int .i64 x] 3)) hgrow5 HUB.out.1)); (have v650 := V65.cell 0 (.int .i64 z) rfl); (have v651 := V65.cell 1 u rfl); (have p650 := V65.frozen 0); (have p651 := V65.frozen 1)))
      all_goals
        have LF := Lib.hid (Lots.coef HT.out ON.out H2.out H3.out V4.out V5.out V6.out HB.out (by first | exact ((Below.refl _ _).alloc (Nat.le_refl _) _).drew | exact (Below.refl _ _).drew.alloc (Nat.le_refl _) _ | exact (Below.refl _ _).alloc (Nat.le_refl _) _) hown5 hgrow5 (fun g e => (OW.out.lt g e).1) hwh5)
        clear hown5 hgrow5 hwh5 V65 v650 v651 p650 p651
        go_wp2
        go_roundw
        case rel => exact ⟨k + 1, _, by omega, by go_num, LF.out⟩
        case measure => simp [intOf]; omega
    · obtain rfl : k = ts.length := by omega
      obtain ⟨h1, h2, h3, h4, h5, h6, h7, h8⟩ := HL.out
      rw [List.take_length] at h1 h2
      have h1' : wr.ownsRow (w.heap.size + 2) 9 1 u4 (nms (z, ts)).length ((nms (z, ts)).map Value.string) := by simpa using h1
      obtain ⟨A2, cap, rfl, hr, hf, hg, hcp⟩ := StrK.of_own h1'
      obtain ⟨G, cg, rfl, rG, fG, hcg, _⟩ := RowK.of_own h2
      have e0 := h5.cell 0 (.int .i64 z) rfl
      have g0 := h7.cell 0 (.int .i64 z) rfl
      have g1 := h7.cell 1 (.slice G ts.length cg) rfl
      have k0 := h6.cell 0 (.int .i64 0) rfl
      have k1 := h6.cell 1 (.slice none 0 0) rfl
      have p0 := h6.frozen 0
      have p1 := h6.frozen 1
      have hnl : (nms (z, ts)).length = ts.length := by simp
      rw [hnl] at hcp
      have F := Lib.hid (fun (W : World) (m : Mod (w.heap.size + 1) (w.heap.size + 2) wr W) => show NamesLin w z ts (.returned (.tuple #[.slice A2 ts.length cap, .agg #[.int .i64 z, .slice G ts.length cg]])) W from
        ⟨A2, cap, G, cg, w.heap.size + 4, wr.heap.size, rfl, srow_keep hr hg m, hcp, rG.keep m (Or.inr (by omega)), ⟨m.os.trans h8.os, m.tape.trans h8.tape, m.output.trans h8.output, Nat.le_trans h8.size m.size, fun i hi => (m.block i (by omega) (Or.inl (by omega))).trans (h8.block i hi)⟩⟩)
      have m1 := Lib.hid (fun (W : World) => (Mod.set (lo := w.heap.size + 1) (hi := w.heap.size + 2) W (p := ⟨w.heap.size + 1, 0, none⟩) (Nat.le_refl _) (Nat.lt_succ_self _) (.int .i64 z)))
      have m2 := Lib.hid (fun (W : World) => (Mod.set (lo := w.heap.size + 1) (hi := w.heap.size + 2) W (p := ⟨w.heap.size + 1, 1, none⟩) (Nat.le_refl _) (Nat.lt_succ_self _) (.slice G ts.length cg)))
      clear h1 h2 h3 h4 h5 h6 h7 h1' HL rG fG hr hf hg h8
      go_wp2_with fail
      go_region_law (fail)
      all_goals
        go_wp2
        refine bodyPost_ret (v := .tuple #[.slice A2 ts.length cap, .agg #[.int .i64 z, .slice G ts.length cg]]) (by simp [results, Tryz.results47, go_sem, k0, k1]) rfl ?_
        first
          | exact F.out _ (((m1.out _).trans (m2.out _)).drew)
          | exact F.out _ ((Mod.refl _ _ _).drew.trans ((m1.out _).trans (m2.out _)))
          | exact F.out _ ((m1.out _).drew.trans (m2.out _))
          | exact F.out _ ((m1.out _).trans (m2.out _))

set_option maxHeartbeats 1000000 in
set_option maxRecDepth 100000 in
/-- The model's representation of a valid sum. -/
theorem formatSum (z : Int) (A : Option Addr) (c : Nat) (ts : List (Int × ByteArray)) (w : World) (hA : ArgS term w A ts.length c ts) (hl : ts.length ≤ 1000000000) (hs : ∀ t ∈ ts, t.2.size ≤ 9223372036854775807) :
    Calls Tryz.prog 27 #[.agg #[.int .i64 z, .slice A ts.length c]] w fun e w' => e = .returned (.string ⟨(FS (z, ts)).toArray⟩) ∧ Below w.heap.size w w' := by
  have HV := Lib.hid (fun W (h : Below w.heap.size w W) => validSum z A c ts W (hA.below h) hl hs)
  have HN := Lib.hid (fun W (h : Below w.heap.size w W) => l9names z A c ts W (hA.below h) hl)
  have B0 := Lib.hid ((Below.refl w.heap.size w).alloc (Nat.le_refl _) (Obj.cells #[Value.int IntKind.i64 z, Value.slice A ts.length c] 50))
  have V0 := Lib.hid (Lvar.new w #[Value.int IntKind.i64 z, Value.slice A ts.length c] 50)
  cases hv : sumV (z, ts) with
  | false =>
    have HF : Hid (FS (z, ts) = []) := Lib.hid (by simp [FS, hv])
    rw [hv] at HV
    clear hv hA hl
    go_enter Tryz.func27, Tryz.ntmps27
    go_wp2_with fail
    refine (Calls.mono (HV.out _ B0.out)) ?_
    rintro e w1 ⟨rfl, b1⟩
    have B1 := Lib.hid (B0.out.trans (b1.mono B0.out.size))
    clear b1
    go_wp2
    go_ret
    exact ⟨TextI.ret_str HF.out.symm, B1.out⟩
  | true =>
    have HF := Lib.hid (F_sum hv)
    have hnl : (nms (z, ts)).length = ts.length := by simp
    have hcl : (cfs (z, ts)).length = ts.length := by simp
    have HN8 := Lib.hid (fun s (h : s ∈ nms (z, ts)) => show s.size ≤ 9223372036854775807 by obtain ⟨t, ht, rfl⟩ := List.mem_map.1 h; exact hs t ht)
    rw [hv] at HV
    clear hv hA hs
    go_enter Tryz.func27, Tryz.ntmps27
    go_wp2_with fail
    refine (Calls.mono (HV.out _ B0.out)) ?_
    rintro e w1 ⟨rfl, b1⟩
    have B1 := Lib.hid (B0.out.trans (b1.mono B0.out.size))
    have V1 := Lib.hid (V0.out.below b1)
    have v0 := V1.out.cell 0 (.int .i64 z) rfl
    have v1 := V1.out.cell 1 (.slice A ts.length c) rfl
    clear b1 V0 B0
    go_wp2_with fail
    refine (Calls.mono (HN.out _ B1.out)) ?_
    rintro e w2 ⟨A2, cap, G, cg, lo, hi, rfl, hS, hcp, hR, b2⟩
    have B2 := Lib.hid (B1.out.trans (b2.mono B1.out.size))
    have T3 := Lib.hid (fun W (b : Below w2.heap.size w2 W) => TextS.format lo hi z G A2 cg cap (cfs (z, ts)) (nms (z, ts)) W (hR.below b) (hS.below b) (by rw [hcl]; exact hl) (by rw [hnl]; exact hl) (by rw [hnl]; exact hcp) HN8.out)
    rw [hcl, hnl, HF.out] at T3
    clear b2 B1 V1 v0 v1 hS hR HV HN
    go_wp2_with fail
    refine (Calls.mono (T3.out _ ((Below.refl _ _).alloc (Nat.le_refl _) _))) ?_
    rintro e w3 ⟨rfl, b3⟩
    have B3 := Lib.hid ((B2.out.alloc B2.out.size (Obj.cells #[Value.int .i64 z, Value.slice G ts.length cg] 82)).trans (b3.mono (by have := B2.out.size; simp; omega)))
    clear b3 T3 B2
    go_wp2
    go_ret
    exact ⟨rfl, B3.out⟩
end ArgP
end Go.Proofs.YtiilopfhlmeaoaaGreatDoor

/-
  The model's FormatArg: the representation of a valid argument.
-/
namespace Go.Proofs.YtiilopfhlmeaoaaGreatDoor
open Go.RowKit
namespace ArgP
open RowK Mem ArgM ArgI TextM

theorem headsT_snoc (a : List Sm) (h : Sm) : headsT (a ++ [h]) = headsT a ++ (fmtS h ++ ArgSp.sep) := by simp [headsT]
theorem fmtS_len {s : Sm} (h : sumV s = true) : (fmtS s).length ≤ 190 := by
  have h1 := TextI.F_len (nms s) s.1 (cfs s)
  rw [F_sum h, FS, if_pos h] at h1
  exact h1
theorem headsT_len : ∀ {hs : List Sm}, (∀ h ∈ hs, sumV h = true) → (headsT hs).length ≤ 193 * hs.length
  | [], _ => by simp [headsT]
  | h :: hs, hh => by
    have h1 := fmtS_len (hh h List.mem_cons_self)
    have h2 := headsT_len (fun x hx => hh x (List.mem_cons_of_mem _ hx))
    simp only [headsT, List.map_cons, List.flatten_cons, List.length_append, List.length_cons, List.length_nil] at h2 ⊢
    omega

set_option maxHeartbeats 1000000 in
set_option maxRecDepth 100000 in
/-- The model's representation of an argument. -/
theorem formatArg (p : Bool) (s : ByteArray) (A : Option Addr) (c : Nat) (xs : List Sm) (w : World) (hA : ArgS Mem.sum w A xs.length c xs) (hl : xs.length + szs ssl xs ≤ 1000000000) (hs : ∀ x ∈ xs, ∀ t ∈ x.2, t.2.size ≤ 9223372036854775807) (hb : s.size ≤ 9223372036854775807) :
    Calls Tryz.prog 9 #[.agg #[.bool p, .slice A xs.length c, .string s]] w fun e w' => e = .returned (.string ⟨(FA (p, xs, s)).toArray⟩) ∧ Below w.heap.size w w' := by
  have HV := Lib.hid (fun W (h : Below w.heap.size w W) => validArg p A c xs s W (hA.below h) hl hs hb)
  have B0 := Lib.hid ((Below.refl w.heap.size w).alloc (Nat.le_refl _) (Obj.cells #[Value.bool p, Value.slice A xs.length c, Value.string s] 26))
  have V0 := Lib.hid (Lvar.new w #[Value.bool p, Value.slice A xs.length c, Value.string s] 26)
  cases hv : argV (p, xs, s) with
  | false =>
    have HF : Hid (FA (p, xs, s) = []) := Lib.hid (by simp [FA, hv])
    rw [hv] at HV
    clear hv hA hl
    go_enter Tryz.func9, Tryz.ntmps9
    go_wp2_with fail
    refine (Calls.mono (HV.out _ B0.out)) ?_
    rintro e w1 ⟨rfl, b1⟩
    have B1 := Lib.hid (B0.out.trans (b1.mono B0.out.size))
    clear b1
    go_wp2
    go_ret
    exact ⟨TextI.ret_str HF.out.symm, B1.out⟩
  | true =>
    have HF := Lib.hid (show FA (p, xs, s) = fmtA (p, xs, s) by simp [FA, hv])
    have HA := Lib.hid hA
    rw [hv] at HV
    go_enter Tryz.func9, Tryz.ntmps9
    go_wp2_with fail
    refine (Calls.mono (HV.out _ B0.out)) ?_
    rintro e w1 ⟨rfl, b1⟩
    have B1 := Lib.hid (B0.out.trans (b1.mono B0.out.size))
    have V1 := Lib.hid (V0.out.below b1)
    clear b1 V0 B0 HV hA
    have v0 := V1.out.cell 0 (.bool p) rfl
    have v1 := V1.out.cell 1 (.slice A xs.length c) rfl
    have v2 := V1.out.cell 2 (.string s) rfl
    cases p with
    | false =>
      obtain ⟨k, rfl, hk, _⟩ := argV_int.1 hv
      obtain ⟨b2, o, B, d, rfl, hbb, c0, c1, hts⟩ := (HA.out.below B1.out).sum_at (k := 0) (Nat.succ_pos _)
      have hsk := hs k List.mem_cons_self
      have hlk : k.2.length ≤ 1000000000 := by simp [szs, ssl] at hl; omega
      have HF2 := Lib.hid (show FA (false, [k], s) = FS k by rw [HF.out, FS, if_pos hk]; rfl)
      obtain ⟨z, ts⟩ := k
      simp only [List.getElem_cons_zero, Nat.zero_mul, Nat.add_zero] at c0 c1 hts hsk hlk
      have FO := Lib.hid (formatSum z B d ts w1 hts hlk hsk)
      clear hv hl hs hk hts HF
      go_wp2_with fail
      refine (Calls.mono FO.out) ?_
      rintro e w2 ⟨rfl, b2⟩
      have B2 := Lib.hid (B1.out.trans (b2.mono B1.out.size))
      clear b2
      go_wp2
      go_ret
      exact ⟨TextI.ret_str HF2.out.symm, B2.out⟩
    | true =>
      obtain ⟨a1, a2, a3⟩ := argV_list.1 hv
      have HF2 := Lib.hid (show FA (true, xs, s) = headsT xs ++ baseT s by rw [HF.out]; rfl)
      clear hv HF
      go_wp2
      go_loopw [3, 4] (fun v i wr => ∃ k : Nat, k ≤ xs.length ∧ i = .int .i64 k ∧ v = .string ⟨(headsT (xs.take k)).toArray⟩ ∧ Below w1.heap.size w1 wr) (fun _ i _ => xs.length - (intOf i).toNat)
      case atStart => exact ⟨0, Nat.zero_le _, rfl, rfl, Below.refl _ _⟩
      case round =>
        obtain ⟨k, hk, rfl, rfl, hbw⟩ := hrel
        have HB := Lib.hid (B1.out.trans (hbw.mono B1.out.size))
        have V2 := Lib.hid (V1.out.below hbw)
        have HW := Lib.hid hbw
        clear hbw v0 v1 v2
        have v0 := V2.out.cell 0 (.bool true) rfl
        have v1 := V2.out.cell 1 (.slice A xs.length c) rfl
        have v2 := V2.out.cell 2 (.string s) rfl
        by_cases hlt : k < xs.length
        · obtain ⟨b2, o, B, d, rfl, hbb, c0, c1, hts⟩ := (HA.out.below HB.out).sum_at hlt
          have hsk := hs _ (List.getElem_mem hlt)
          have hlk := sum_len hlt hl
          have hvk := a1 _ (List.getElem_mem hlt)
          have HT := Lib.hid (show headsT (xs.take (k + 1)) = headsT (xs.take k) ++ (fmtS xs[k] ++ ArgSp.sep) by rw [take_snoc hlt, headsT_snoc])
          have hT1 := fmtS_len hvk
          have hT0 : (headsT (xs.take k)).length ≤ 579 := by
            have h9 := headsT_len (hs := xs.take k) (fun h hm => a1 h (List.mem_of_mem_take hm))
            have h8 := List.length_take_le k xs
            omega
          have hi0 : (0 : Int) ≤ (k : Int) := by omega
          have hi1 : (k : Int) < (xs.length : Int) := by omega
          generalize xs[k] = x at *
          obtain ⟨z, ts⟩ := x
          simp only at c0 c1 hts hsk hlk
          have FO := formatSum z B d ts wr hts hlk hsk
          rw [show FS (z, ts) = fmtS (z, ts) by rw [FS, if_pos hvk]] at FO
          have FO := Lib.hid FO
          clear hts hsk hvk
          generalize headsT (xs.take k) = T0 at *
          generalize fmtS (z, ts) = T1 at *
          have hsum : T0.length + T1.length + 3 ≤ 9223372036854775807 := by omega
          have hsum2 : T0.length + T1.length ≤ 9223372036854775807 := by omega
          have hno : decide (9223372036854775807 < T0.length + T1.length) = false := decide_eq_false (by omega)
          have hno2 : decide (9223372036854775807 < T0.length + T1.length + 3) = false := decide_eq_false (by omega)
          go_wp2_with fail
          refine (Calls.mono FO.out) ?_
          rintro e w2 ⟨rfl, b2⟩
          have B2 := Lib.hid (HW.out.trans (b2.mono HW.out.size))
          clear b2
          go_wp2
          go_roundw
          case rel => exact ⟨k + 1, by omega, by go_num, congrArg Value.string (NameM.toList_inj (by rw [HT.out]; simp [ArgSp.sep, ByteArray.data_append])), B2.out⟩
          case measure => simp [intOf]; omega
        · obtain rfl : k = xs.length := by omega
          rw [List.take_length]
          have hTA : (headsT xs).length ≤ 579 := by have h9 := headsT_len a1; omega
          have hbs : s.size ≤ 8 := by
            simp only [baseV, Bool.or_eq_true, decide_eq_true_eq] at a3
            rcases a3 with h | h
            · omega
            · exact (valid_shape (list_valid h)).2
          by_cases h0 : s.size = 0
          · obtain rfl := TextI.name_none h0
            have HF3 := Lib.hid (show FA (true, xs, ByteArray.empty) = headsT xs ++ [110, 105, 108] from HF2.out)
            clear HF2
            generalize headsT xs = T0 at *
            go_wp2
            refine bodyPost_ret (v := .string (ByteArray.mk T0.toArray ++ ⟨#[110, 105, 108]⟩)) (by simp [results, Tryz.results9, go_sem]) rfl ?_
            exact ⟨TextS.ret_bytes (by rw [HF3.out]; simp [ByteArray.data_append]), HB.out⟩
          · have hnf := TextI.name_facts h0
            have HF3 := Lib.hid (show FA (true, xs, s) = headsT xs ++ s.data.toList by rw [HF2.out, baseT, if_neg h0])
            clear HF2
            generalize headsT xs = T0 at *
            go_wp2
            refine bodyPost_ret (v := .string (ByteArray.mk T0.toArray ++ s)) (by simp [results, Tryz.results9, go_sem]) rfl ?_
            exact ⟨TextS.ret_bytes (by rw [HF3.out]; simp [ByteArray.data_append]), HB.out⟩
end ArgP
end Go.Proofs.YtiilopfhlmeaoaaGreatDoor
