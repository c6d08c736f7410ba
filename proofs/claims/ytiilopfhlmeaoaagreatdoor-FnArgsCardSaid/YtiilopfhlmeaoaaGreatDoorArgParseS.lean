import Derived.Test.YtiilopfhlmeaoaaGreatDoorArgParse
import Derived.Test.YtiilopfhlmeaoaaGreatDoorSplitSpec
import Derived.Test.YtiilopfhlmeaoaaGreatDoorArgFmtA
/-
  spec.ParseSum: the sum whose representation the text is, as the model reads it.
-/
namespace Go.Proofs.YtiilopfhlmeaoaaGreatDoor
open Go.RowKit
namespace ArgP
open RowK Mem ArgM TextM TextI CutI ArgI NameM

theorem range_snocS (f : Nat → TItem) (l : Sm) (j : Nat) : ((List.range (j + 1)).map f).foldl stepS l = stepS (((List.range j).map f).foldl stepS l) (f j) := by
  rw [List.range_succ, List.map_append, List.foldl_append]; rfl
theorem end_eqS {PP : Option Sm} {RR : Sm} {l : List UInt8} (h : PP = if sumV RR = true ∧ fmtS RR = l then some RR else none) (hl : l ≠ []) : PP = if FS RR = l then some RR else none := by
  rw [h]
  by_cases h1 : sumV RR = true ∧ fmtS RR = l
  · rw [if_pos h1, if_pos (by rw [FS, if_pos h1.1]; exact h1.2)]
  · rw [if_neg h1, if_neg (FS_no hl h1)]
theorem spB_getS {s : ByteArray} {k : Nat} {p : ByteArray} (h : (SplitM.spB 32 s)[k]? = some p) : (SplitM.sp 32 s.data.toList).getD k [] = p.data.toList := by
  rw [← SplitM.spB_data, List.getD, List.getElem?_map, h]; rfl
theorem srow_modS {w w' : World} {A : Option Addr} {ss : List ByteArray} {lo hi : Nat} (h : StrK.SRow w A ss) (m : Mod lo hi w w') (hd : ∀ a, A = some a → hi ≤ a.block) : StrK.SRow w' A ss := fun hn => by
  obtain ⟨b, o, rfl, hlt, hc⟩ := h hn
  exact ⟨b, o, rfl, Nat.lt_of_lt_of_le hlt m.size, fun j s hj => by rw [World.cell?_of_block (w := w) (m.block b hlt (Or.inr (hd _ rfl)))]; exact hc j s hj⟩
theorem readS_name (l : List UInt8) (h : l.length ≤ 1048576) : (readS 999999 l).2.size ≤ 1048576 := by
  unfold readS
  split
  · show ByteArray.size _ ≤ _
    rw [size_mk]
    exact h
  · split
    · show ByteArray.size _ ≤ _
      rw [size_mk]
      have := (List.dropWhile_sublist (l := l) digit).length_le
      omega
    · show ByteArray.size _ ≤ _
      decide
theorem body_le (l : List UInt8) : (NumM.body l).length ≤ l.length := by
  unfold NumM.body
  split
  · simp
  · exact Nat.le_refl _
theorem termS_name {ws : List (List UInt8)} (h : ∀ p ∈ ws, p.length ≤ 1048576) (j : Nat) : (termS 999999 ws j).2.size ≤ 1048576 := by
  have hg : ∀ k, (ws.getD k []).length ≤ 1048576 := fun k => by
    rw [List.getD]
    cases hk : ws[k]? with
    | none => simp
    | some p => exact h p (List.mem_of_getElem? hk)
  unfold termS negI
  split
  · exact readS_name _ (Nat.le_trans (body_le _) (hg 0))
  · exact readS_name _ (hg _)
/-- The sum so far, in its variable; the words lie in older memory. -/
def Summed (w w2 : World) (L : Sm) (u : Value) (wr : World) : Prop :=
  Lvar wr (w.heap.size + 1) #[.int .i64 L.1, u] ∧ wr.ownsRow w2.heap.size 60 2 u L.2.length (tcells L.2) ∧ Below w.heap.size w wr ∧ Lvar wr w.heap.size #[.int .i64 0, .slice none 0 0] ∧ Mod (w.heap.size + 1) (w.heap.size + 2) w2 wr
theorem Summed.below {w w2 wr w' : World} {L : Sm} {u : Value} (h : Summed w w2 L u wr) (hb : Below wr.heap.size wr w') : Summed w w2 L u w' :=
  ⟨h.1.below hb, h.2.1.kept (StrK.only_below hb none) (by by_cases hv : u.ownBlock = none; exact Or.inl hv; exact Or.inr hv), h.2.2.1.trans (hb.mono h.2.2.1.size), h.2.2.2.1.below hb, h.2.2.2.2.trans (Mod.of_below hb)⟩
theorem Summed.const {w w2 wr : World} {L : Sm} {u : Value} (h : Summed w w2 L u wr) (hw : w.heap.size + 2 ≤ w2.heap.size) (x : Int) : Summed w w2 (x, L.2) u (wr.setCell ⟨w.heap.size + 1, 0, none⟩ (.int .i64 x)) := by
  refine ⟨by simpa using h.1.set 0 (.int .i64 x), h.2.1.kept (StrK.only_set wr (w.heap.size + 1) 0 (.int .i64 x)) ?_, h.2.2.1.setCell (p := ⟨w.heap.size + 1, 0, none⟩) (Nat.le_succ _) _, h.2.2.2.1.other (p := ⟨w.heap.size + 1, 0, none⟩) (by show w.heap.size ≠ w.heap.size + 1; omega) _, h.2.2.2.2.trans (Mod.set _ (p := ⟨w.heap.size + 1, 0, none⟩) (Nat.le_refl _) (Nat.lt_succ_self _) _)⟩
  by_cases hv : u.ownBlock = none
  · exact Or.inl hv
  · refine Or.inr fun e => ?_
    have := (h.2.1.lt (w.heap.size + 1) (by simpa using e)).1
    omega
theorem Summed.more {w w2 w3 w4 w5 : World} {L : Sm} {u v : Value} {t : TItem} (h : Summed w w2 L u w3) (hw : w.heap.size + 2 ≤ w2.heap.size) (h4 : Below w3.heap.size w3 w4) (ho : w5.ownsRow w2.heap.size 60 2 v (L.2.length + 1) (tcells L.2 ++ [.int .i64 t.1, .string t.2])) (hg : w4.grownBy w5 u.ownBlock) :
    Summed w w2 (L.1, L.2 ++ [t]) v (w5.setCell ⟨w.heap.size + 1, 1, none⟩ v) ∧ Lvar w5 (w.heap.size + 1) #[.int .i64 L.1, u] := by
  have h' := h.below h4
  have hne : ∀ b, b < w2.heap.size → u.ownBlock ≠ some b := fun b hb e => by have := (h.2.1.lt _ e).1; omega
  have hl := lvar_grown h'.1 hg (hne _ (by omega))
  have hm : Mod (w.heap.size + 1) (w.heap.size + 2) w2 w5 := by
    obtain ⟨m1, m2, m3, m4, m5⟩ := h'.2.2.2.2
    exact ⟨hg.os.trans m1, hg.tape.trans m2, hg.output.trans m3, Nat.le_trans m4 hg.size, fun i hi hn => (hg.block i (Nat.lt_of_lt_of_le hi m4) (fun e => hne i hi e.symm)).trans (m5 i hi hn)⟩
  refine ⟨⟨by simpa using hl.set 1 v, ?_, (h'.2.2.1.grown hg h'.2.2.1.size (fun j hj => by have := (h.2.1.lt j hj).1; omega)).setCell (p := ⟨w.heap.size + 1, 1, none⟩) (Nat.le_succ _) _, (lvar_grown h'.2.2.2.1 hg (hne _ (by omega))).other (p := ⟨w.heap.size + 1, 1, none⟩) (by show w.heap.size ≠ w.heap.size + 1; omega) _, hm.trans (Mod.set _ (p := ⟨w.heap.size + 1, 1, none⟩) (Nat.le_refl _) (Nat.lt_succ_self _) _)⟩, hl⟩
  have e1 : tcells (L.2 ++ [t]) = tcells L.2 ++ [.int .i64 t.1, .string t.2] := by simp [tcells]
  rw [List.length_append, List.length_singleton, e1]
  refine ho.kept (StrK.only_set w5 (w.heap.size + 1) 1 v) ?_
  by_cases hv : v.ownBlock = none
  · exact Or.inl hv
  · refine Or.inr fun e => ?_
    have := (ho.lt (w.heap.size + 1) (by simpa using e)).1
    omega

set_option maxHeartbeats 4000000 in
set_option maxRecDepth 100000 in
theorem parseSum (s : ByteArray) (w : World) (hsz : s.size ≤ 1048576) :
    Calls Tryz.prog 26 #[.string s] w (GaveSumO w (parseS s.data.toList)) := by
  obtain ⟨i0, hi, hz0, hz1, hz2⟩ := info_parts termInfo9
  have HI := Lib.hid hi
  have HZ0 := Lib.hid hz0
  have HZ1 := Lib.hid hz1
  have HZ2 := Lib.hid hz2
  have HU := Lib.hid Tryz.underlying48
  have HPE := Lib.hid (parseS_scan (scansS s.data.toList))
  obtain ⟨ws, hws⟩ : ∃ ws, ws = SplitM.sp 32 s.data.toList := ⟨_, rfl⟩
  have hwl : (SplitM.spB 32 s).length = ws.length := by rw [hws, ← SplitM.spB_data, List.length_map]
  have hwn : ws.length ≤ 1048577 := by have := SplitM.sp_length_le 32 s.data.toList; rw [size_list] at this; rw [hws]; omega
  have hwp : ∀ p ∈ ws, p.length ≤ 1048576 := fun p hp => by
    rw [hws, ← SplitM.spB_data] at hp
    obtain ⟨q, hq, rfl⟩ := List.mem_map.1 hp
    have := SplitM.spB_size 32 s q hq
    rw [size_list]
    omega
  obtain ⟨S, hS⟩ : ∃ S : Nat → Sm, ∀ j, ((List.range j).map (termS 999999 ws)).foldl stepS (0, []) = S j := ⟨_, fun _ => rfl⟩
  have HS0 : Hid (S 0 = (0, [])) := Lib.hid (by rw [← hS]; rfl)
  have HSN := Lib.hid (fun j => show S (j + 1) = stepS (S j) (termS 999999 ws j) by rw [← hS, ← hS, range_snocS])
  have HSE : Hid (RS (scanS 999999 s.data.toList) = S (ws.length / 2 + ws.length % 2)) := Lib.hid (by rw [← hS, hws]; rfl)
  have HSL := Lib.hid (fun j (h : j ≤ 1048577) => show (S j).2.length ≤ 1048577 by
    rw [← hS]
    have := RS_len ((List.range j).map (termS 999999 ws)) (0, [])
    simp at this
    omega)
  have HSZ := Lib.hid (fun j t (h : t ∈ (S j).2) => show t.2.size ≤ 9223372036854775807 by
    rw [← hS] at h
    rcases foldS_mem (l := ((0, []) : Sm)) h with h | h
    · cases h
    · obtain ⟨k, _, rfl⟩ := List.mem_map.1 h
      exact Nat.le_trans (termS_name hwp k) (by omega))
  have SP := Lib.hid (fun W => SplitS.spec s 32 hsz W)
  unfold SplitS.Post at SP
  have HGT := Lib.hid (fun k p (h : (SplitM.spB 32 s)[k]? = some p) => show ws.getD k [] = p.data.toList by rw [hws]; exact spB_getS h)
  have HPZ := Lib.hid (fun p (h : p ∈ SplitM.spB 32 s) => Nat.le_trans (SplitM.spB_size 32 s p h) hsz)
  have HWL := Lib.hid hwl
  clear hS hws hwl hwp hi hz0 hz1 hz2
  generalize parseS s.data.toList = PP at *
  generalize RS (scanS 999999 s.data.toList) = RR at *
  generalize SplitM.spB 32 s = wb at *
  have t0 : Below w.heap.size w ((w.alloc (Obj.cells #[Value.int IntKind.i64 0, Value.slice none 0 0] 50)).alloc (Obj.cells #[Value.int IntKind.i64 0, Value.slice none 0 0] 50)) := ((Below.refl _ _).alloc (Nat.le_refl _) _).alloc (by simp) _
  have hR := (Lvar.new w #[Value.int IntKind.i64 0, Value.slice none 0 0] 50).alloc (Obj.cells #[Value.int IntKind.i64 0, Value.slice none 0 0] 50)
  have hO := Lvar.new (w.alloc (Obj.cells #[Value.int IntKind.i64 0, Value.slice none 0 0] 50)) #[Value.int IntKind.i64 0, Value.slice none 0 0] 50
  rw [World.size_alloc] at hO
  have L0 := Lib.hid hR
  have V0 := Lib.hid hO
  have B0 := Lib.hid t0
  have hz0 : w.heap.size + 2 ≤ ((w.alloc (Obj.cells #[Value.int IntKind.i64 0, Value.slice none 0 0] 50)).alloc (Obj.cells #[Value.int IntKind.i64 0, Value.slice none 0 0] 50)).heap.size := by simp
  clear t0 hR hO
  go_enter Tryz.func26, Tryz.ntmps26
  go_wp2_with fail
  generalize (w.alloc (Obj.cells #[Value.int IntKind.i64 0, Value.slice none 0 0] 50)).alloc (Obj.cells #[Value.int IntKind.i64 0, Value.slice none 0 0] 50) = w1 at *
  refine (Calls.mono (SP.out _)) ?_
  rintro e w2 ⟨Aw, cw, rfl, rW, fW, b2, gW, _⟩
  have GW := Lib.hid (fun a h => Nat.le_trans hz0 (gW a h))
  have hz2 : w.heap.size + 2 ≤ w2.heap.size := Nat.le_trans hz0 b2.size
  have S2 := Lib.hid (show Summed w w2 (S 0) (.slice none 0 0) w2 by
    rw [HS0.out]
    exact ⟨V0.out.below b2, World.ownsRow_nil _ _ _ _, B0.out.trans (b2.mono B0.out.size), L0.out.below b2, Mod.refl _ _ _⟩)
  have RW := Lib.hid rW
  have hwb : wb.length ≤ 1048577 := by rw [HWL.out]; exact hwn
  clear rW fW gW b2 L0 V0 B0 SP
  go_wp2
  go_loopw [6] (fun i wr => ∃ (j m : Nat) (u : Value), m = 2 * j ∧ m ≤ wb.length + 1 ∧ i = .int .i64 m ∧ Summed w w2 (S j) u wr) (fun i _ => wb.length + 2 - (intOf i).toNat)
  case atStart => exact ⟨0, 0, _, rfl, by omega, rfl, S2.out⟩
  case round =>
    obtain ⟨j, m, u, hm, hmle, rfl, hSU⟩ := hrel
    have HM := Lib.hid hm
    have HSU := Lib.hid hSU
    have RWr := Lib.hid (srow_modS RW.out hSU.2.2.2.2 GW.out)
    have hsz : w2.heap.size ≤ wr.heap.size := hSU.2.2.2.2.size
    clear hm hSU S2
    by_cases hlt : m < wb.length
    · obtain ⟨bw, ow, rfl, hbw, hcw⟩ := RWr.out.at_ hlt
      have hg := List.getElem?_eq_getElem hlt
      have hpz := HPZ.out wb[m] (List.getElem_mem hlt)
      have hi0 : (0 : Int) ≤ (m : Int) := by omega
      have hi1 : (m : Int) < (wb.length : Int) := by omega
      generalize wb[m] = p at *
      have HG := Lib.hid (HGT.out m p hg)
      by_cases hm0 : m = 0
      · have hj0 : Hid (j = 0) := Lib.hid (by have := HM.out; omega)
        have hme : ((m : Int) == 0) = true := by rw [hm0]; rfl
        have hmp : decide (0 < (m : Int)) = false := decide_eq_false (by omega)
        have hmp' : decide (0 < m) = false := decide_eq_false (by omega)
        have HW0 := Lib.hid (show ws.getD 0 [] = p.data.toList by rw [← HG.out, hm0])
        have HTM0 := Lib.hid (show termS 999999 ws j = negI (decide (p.data.toList.head? = some 45)) (readS 999999 (NumM.body p.data.toList)) by rw [hj0.out, termS, if_pos rfl, HW0.out])
        clear hm0 hg HG
        by_cases hp0 : 0 < p.size
        · have hps : decide (0 < p.size) = true := decide_eq_true hp0
          have hps' : decide (0 < (p.size : Int)) = true := decide_eq_true (by omega)
          have hp1 : (1 : Int) ≤ (p.size : Int) := by omega
          have hh : p.data.toList.head? = some p[0] := by
            have := at_data p 0 hp0
            rwa [← List.head?_eq_getElem?] at this
          by_cases h45 : p[0] = 45
          · have hh2 := hh.trans (congrArg some h45)
            have h45' : ((p[0].toNat : Int) == 45) = true := by rw [h45]; rfl
            have hdat : (p.extract 1 p.size).data.toList = NumM.body p.data.toList := by
              rw [from_eq, NumM.body, if_pos hh2]
              cases p.data.toList with
              | nil => rfl
              | cons a l => rfl
            have HTM := Lib.hid (show termS 999999 ws j = negI true (readS 999999 (p.extract 1 p.size).data.toList) by rw [HTM0.out, hdat, hh2]; rfl)
            have hpz2 : (p.extract 1 p.size).size ≤ 1048576 := by
              have := congrArg List.length hdat
              rw [size_list] at this
              have h2 := body_len p.data.toList
              rw [size_list] at h2
              omega
            clear HTM0 hh hh2 hdat h45
            have WD := Lib.hid (WordS.word ((p.extract 1 p.size)) hpz2 wr)
            unfold WordS.Word at WD
            have HRS := readS_small (show (1 : Int) ≤ 999999 by omega) (((p.extract 1 p.size)).data.toList)
            have HTT := Lib.hid (show S (j + 1) = stepS (S j) (-(readS 999999 (((p.extract 1 p.size)).data.toList)).1, (readS 999999 (((p.extract 1 p.size)).data.toList)).2) by rw [HSN.out, HTM.out]; rfl)
            generalize readS 999999 (((p.extract 1 p.size)).data.toList) = t at *
            obtain ⟨N, nm⟩ := t
            simp only at HRS HTT WD
            obtain ⟨hN0, hN1⟩ := HRS
            clear HTM
            go_wp2_with fail
            refine (Calls.mono WD.out) ?_
            rintro e w3 ⟨rfl, b3⟩
            have M3 := Lib.hid (HSU.out.below b3)
            clear b3 HSU RWr
            have HST := HTT.out
            unfold stepS at HST
            simp only at HST
            have v0 := M3.out.1.cell 0 (.int .i64 (S j).1) rfl
            have v1 := M3.out.1.cell 1 u rfl
            have vp0 := M3.out.1.frozen 0
            have vp1 := M3.out.1.frozen 1
            have vlt := M3.out.1.lt
            by_cases hnm : nm.size = 0
            · obtain rfl := name_none hnm
              have HN2 := Lib.hid (show S (j + 1) = (-N, (S j).2) by rw [HST, if_pos hnm])
              have F := Lib.hid (M3.out.const hz2 (-N))
              clear hnm HST HTT
              go_wp2
              go_roundw
              case rel => exact ⟨j + 1, m + 2, _, by have := HM.out; omega, by omega, by go_num, by rw [HN2.out]; exact F.out⟩
              case measure => simp [intOf]; omega
            · have hnf := name_facts hnm
              have HN2 := Lib.hid (show S (j + 1) = ((S j).1, (S j).2 ++ [(-N, nm)]) by rw [HST, if_neg hnm])
              have hll := HSL.out j (by have := HM.out; omega)
              have hub := M3.out.2.1.lt
              have hs3 := M3.out.2.2.2.2.size
              have HO3 := Lib.hid (M3.out.2.1.alloc (Obj.cells #[Value.int IntKind.i64 (-N), Value.string nm] 60))
              clear hnm HST HTT
              go_wp2_with (at_builtin; refine wpList_append_own _ rfl (.tmp 60) (.tmp 66) 48 rfl w2.heap.size 60 i0 (.agg #[.int .i64 0, .string ByteArray.empty]) 2 24 HU.out HI.out HZ0.out HZ1.out HZ2.out rfl (by decide) _ _ _ rfl HO3.out ⟨w3.heap.size, 0, none⟩ 1 1 [.int .i64 (-N), .string nm] rfl rfl (cell_two_new _ _ _ _) (by intro u hu; simp at hu; rcases hu with rfl | rfl <;> rfl) (by unfold maxLen; omega) (by omega) (by simp; omega) ?_; intro v5 w5 hown5 hgrow5 _; (obtain ⟨A5, c5, rfl, _, _, _, _⟩ := RowK.of_own hown5); (have NX := Summed.more (t := (-N, nm)) M3.out hz2 ((Below.refl _ _).alloc (Nat.le_refl _) (Obj.cells #[Value.int IntKind.i64 (-N), Value.string nm] 60)) hown5 hgrow5); (have k0 := NX.2.cell 0 (.int .i64 (S j).1) rfl); (have k1 := NX.2.cell 1 u rfl); (have kp1 := NX.2.frozen 1); (have F := Lib.hid NX.1); clear NX hown5 hgrow5)
              go_roundw
              case rel => exact ⟨j + 1, m + 2, _, by have := HM.out; omega, by omega, by go_num, by rw [HN2.out]; exact F.out⟩
              case measure => simp [intOf]; omega
          · have h45' : ((p[0].toNat : Int) == 45) = false := beq_eq_false_iff_ne.2 (fun e => h45 (UInt8.toNat_inj.1 (by show p[0].toNat = 45; omega)))
            have hhn : p.data.toList.head? ≠ some 45 := fun e => h45 (by rw [hh] at e; exact Option.some.inj e)
            have HTM := Lib.hid (show termS 999999 ws j = negI false (readS 999999 p.data.toList) by rw [HTM0.out, NumM.body, if_neg hhn, decide_eq_false hhn])
            clear HTM0 hh hhn h45
            have WD := Lib.hid (WordS.word (p) hpz wr)
            unfold WordS.Word at WD
            have HRS := readS_small (show (1 : Int) ≤ 999999 by omega) ((p).data.toList)
            have HTT := Lib.hid (show S (j + 1) = stepS (S j) ((readS 999999 ((p).data.toList)).1, (readS 999999 ((p).data.toList)).2) by rw [HSN.out, HTM.out]; rfl)
            generalize readS 999999 ((p).data.toList) = t at *
            obtain ⟨N, nm⟩ := t
            simp only at HRS HTT WD
            obtain ⟨hN0, hN1⟩ := HRS
            clear HTM
            go_wp2_with fail
            refine (Calls.mono WD.out) ?_
            rintro e w3 ⟨rfl, b3⟩
            have M3 := Lib.hid (HSU.out.below b3)
            clear b3 HSU RWr
            have HST := HTT.out
            unfold stepS at HST
            simp only at HST
            have v0 := M3.out.1.cell 0 (.int .i64 (S j).1) rfl
            have v1 := M3.out.1.cell 1 u rfl
            have vp0 := M3.out.1.frozen 0
            have vp1 := M3.out.1.frozen 1
            have vlt := M3.out.1.lt
            by_cases hnm : nm.size = 0
            · obtain rfl := name_none hnm
              have HN2 := Lib.hid (show S (j + 1) = (N, (S j).2) by rw [HST, if_pos hnm])
              have F := Lib.hid (M3.out.const hz2 (N))
              clear hnm HST HTT
              go_wp2
              go_roundw
              case rel => exact ⟨j + 1, m + 2, _, by have := HM.out; omega, by omega, by go_num, by rw [HN2.out]; exact F.out⟩
              case measure => simp [intOf]; omega
            · have hnf := name_facts hnm
              have HN2 := Lib.hid (show S (j + 1) = ((S j).1, (S j).2 ++ [(N, nm)]) by rw [HST, if_neg hnm])
              have hll := HSL.out j (by have := HM.out; omega)
              have hub := M3.out.2.1.lt
              have hs3 := M3.out.2.2.2.2.size
              have HO3 := Lib.hid (M3.out.2.1.alloc (Obj.cells #[Value.int IntKind.i64 (N), Value.string nm] 60))
              clear hnm HST HTT
              go_wp2_with (at_builtin; refine wpList_append_own _ rfl (.tmp 60) (.tmp 66) 48 rfl w2.heap.size 60 i0 (.agg #[.int .i64 0, .string ByteArray.empty]) 2 24 HU.out HI.out HZ0.out HZ1.out HZ2.out rfl (by decide) _ _ _ rfl HO3.out ⟨w3.heap.size, 0, none⟩ 1 1 [.int .i64 (N), .string nm] rfl rfl (cell_two_new _ _ _ _) (by intro u hu; simp at hu; rcases hu with rfl | rfl <;> rfl) (by unfold maxLen; omega) (by omega) (by simp; omega) ?_; intro v5 w5 hown5 hgrow5 _; (obtain ⟨A5, c5, rfl, _, _, _, _⟩ := RowK.of_own hown5); (have NX := Summed.more (t := (N, nm)) M3.out hz2 ((Below.refl _ _).alloc (Nat.le_refl _) (Obj.cells #[Value.int IntKind.i64 (N), Value.string nm] 60)) hown5 hgrow5); (have k0 := NX.2.cell 0 (.int .i64 (S j).1) rfl); (have k1 := NX.2.cell 1 u rfl); (have kp1 := NX.2.frozen 1); (have F := Lib.hid NX.1); clear NX hown5 hgrow5)
              go_roundw
              case rel => exact ⟨j + 1, m + 2, _, by have := HM.out; omega, by omega, by go_num, by rw [HN2.out]; exact F.out⟩
              case measure => simp [intOf]; omega
        · have hps : decide (0 < p.size) = false := decide_eq_false hp0
          have hps' : decide (0 < (p.size : Int)) = false := decide_eq_false (by omega)
          have hhn : p.data.toList.head? ≠ some 45 := by rw [size_zero (by omega)]; simp
          have HTM := Lib.hid (show termS 999999 ws j = negI false (readS 999999 p.data.toList) by rw [HTM0.out, NumM.body, if_neg hhn, decide_eq_false hhn])
          clear HTM0 hhn hp0
          have WD := Lib.hid (WordS.word (p) hpz wr)
          unfold WordS.Word at WD
          have HRS := readS_small (show (1 : Int) ≤ 999999 by omega) ((p).data.toList)
          have HTT := Lib.hid (show S (j + 1) = stepS (S j) ((readS 999999 ((p).data.toList)).1, (readS 999999 ((p).data.toList)).2) by rw [HSN.out, HTM.out]; rfl)
          generalize readS 999999 ((p).data.toList) = t at *
          obtain ⟨N, nm⟩ := t
          simp only at HRS HTT WD
          obtain ⟨hN0, hN1⟩ := HRS
          clear HTM
          go_wp2_with fail
          refine (Calls.mono WD.out) ?_
          rintro e w3 ⟨rfl, b3⟩
          have M3 := Lib.hid (HSU.out.below b3)
          clear b3 HSU RWr
          have HST := HTT.out
          unfold stepS at HST
          simp only at HST
          have v0 := M3.out.1.cell 0 (.int .i64 (S j).1) rfl
          have v1 := M3.out.1.cell 1 u rfl
          have vp0 := M3.out.1.frozen 0
          have vp1 := M3.out.1.frozen 1
          have vlt := M3.out.1.lt
          by_cases hnm : nm.size = 0
          · obtain rfl := name_none hnm
            have HN2 := Lib.hid (show S (j + 1) = (N, (S j).2) by rw [HST, if_pos hnm])
            have F := Lib.hid (M3.out.const hz2 (N))
            clear hnm HST HTT
            go_wp2
            go_roundw
            case rel => exact ⟨j + 1, m + 2, _, by have := HM.out; omega, by omega, by go_num, by rw [HN2.out]; exact F.out⟩
            case measure => simp [intOf]; omega
          · have hnf := name_facts hnm
            have HN2 := Lib.hid (show S (j + 1) = ((S j).1, (S j).2 ++ [(N, nm)]) by rw [HST, if_neg hnm])
            have hll := HSL.out j (by have := HM.out; omega)
            have hub := M3.out.2.1.lt
            have hs3 := M3.out.2.2.2.2.size
            have HO3 := Lib.hid (M3.out.2.1.alloc (Obj.cells #[Value.int IntKind.i64 (N), Value.string nm] 60))
            clear hnm HST HTT
            go_wp2_with (at_builtin; refine wpList_append_own _ rfl (.tmp 60) (.tmp 66) 48 rfl w2.heap.size 60 i0 (.agg #[.int .i64 0, .string ByteArray.empty]) 2 24 HU.out HI.out HZ0.out HZ1.out HZ2.out rfl (by decide) _ _ _ rfl HO3.out ⟨w3.heap.size, 0, none⟩ 1 1 [.int .i64 (N), .string nm] rfl rfl (cell_two_new _ _ _ _) (by intro u hu; simp at hu; rcases hu with rfl | rfl <;> rfl) (by unfold maxLen; omega) (by omega) (by simp; omega) ?_; intro v5 w5 hown5 hgrow5 _; (obtain ⟨A5, c5, rfl, _, _, _, _⟩ := RowK.of_own hown5); (have NX := Summed.more (t := (N, nm)) M3.out hz2 ((Below.refl _ _).alloc (Nat.le_refl _) (Obj.cells #[Value.int IntKind.i64 (N), Value.string nm] 60)) hown5 hgrow5); (have k0 := NX.2.cell 0 (.int .i64 (S j).1) rfl); (have k1 := NX.2.cell 1 u rfl); (have kp1 := NX.2.frozen 1); (have F := Lib.hid NX.1); clear NX hown5 hgrow5)
            go_roundw
            case rel => exact ⟨j + 1, m + 2, _, by have := HM.out; omega, by omega, by go_num, by rw [HN2.out]; exact F.out⟩
            case measure => simp [intOf]; omega
      · obtain ⟨m', rfl⟩ : ∃ m', m = m' + 1 := ⟨m - 1, by omega⟩
        have hlt' : m' < wb.length := by omega
        obtain ⟨bw', ow', ew, hbw', hcw'⟩ := RWr.out.at_ hlt'
        injection ew with ew; injection ew with ew1 ew2; subst ew1; subst ew2
        have hg' := List.getElem?_eq_getElem hlt'
        generalize wb[m'] = q at *
        have HG' := Lib.hid (HGT.out m' q hg')
        have hne0 : ((m' : Int) + 1 == 0) = false := beq_eq_false_iff_ne.2 (by omega)
        have hpos : decide (0 < (m' : Int) + 1) = true := decide_eq_true (by omega)
        have hpos0 : (0 : Int) < (m' : Int) + 1 := by omega
        have HTM0 := Lib.hid (show termS 999999 ws j = negI (decide (q.data.toList = [45])) (readS 999999 p.data.toList) by
          have := HM.out
          rw [termS, if_neg (by omega), show 2 * j - 1 = m' by omega, show 2 * j = m' + 1 by omega, HG.out, HG'.out])
        clear hm0 hg hg' HG HG'
        by_cases hq : q.data.toList = [45]
        · have hq' : (q.toList == [45]) = true := by rw [ByteArray.toList_eq, hq]; rfl
          have HTM := Lib.hid (show termS 999999 ws j = negI true (readS 999999 p.data.toList) by rw [HTM0.out, decide_eq_true hq])
          clear HTM0 hq
          have WD := Lib.hid (WordS.word (p) hpz wr)
          unfold WordS.Word at WD
          have HRS := readS_small (show (1 : Int) ≤ 999999 by omega) ((p).data.toList)
          have HTT := Lib.hid (show S (j + 1) = stepS (S j) (-(readS 999999 ((p).data.toList)).1, (readS 999999 ((p).data.toList)).2) by rw [HSN.out, HTM.out]; rfl)
          generalize readS 999999 ((p).data.toList) = t at *
          obtain ⟨N, nm⟩ := t
          simp only at HRS HTT WD
          obtain ⟨hN0, hN1⟩ := HRS
          clear HTM
          go_wp2_with fail
          refine (Calls.mono WD.out) ?_
          rintro e w3 ⟨rfl, b3⟩
          have M3 := Lib.hid (HSU.out.below b3)
          clear b3 HSU RWr
          have HST := HTT.out
          unfold stepS at HST
          simp only at HST
          have v0 := M3.out.1.cell 0 (.int .i64 (S j).1) rfl
          have v1 := M3.out.1.cell 1 u rfl
          have vp0 := M3.out.1.frozen 0
          have vp1 := M3.out.1.frozen 1
          have vlt := M3.out.1.lt
          by_cases hnm : nm.size = 0
          · obtain rfl := name_none hnm
            have HN2 := Lib.hid (show S (j + 1) = (-N, (S j).2) by rw [HST, if_pos hnm])
            have F := Lib.hid (M3.out.const hz2 (-N))
            clear hnm HST HTT
            go_wp2
            go_roundw
            case rel => exact ⟨j + 1, m' + 1 + 2, _, by have := HM.out; omega, by omega, by go_num, by rw [HN2.out]; exact F.out⟩
            case measure => simp [intOf]; omega
          · have hnf := name_facts hnm
            have HN2 := Lib.hid (show S (j + 1) = ((S j).1, (S j).2 ++ [(-N, nm)]) by rw [HST, if_neg hnm])
            have hll := HSL.out j (by have := HM.out; omega)
            have hub := M3.out.2.1.lt
            have hs3 := M3.out.2.2.2.2.size
            have HO3 := Lib.hid (M3.out.2.1.alloc (Obj.cells #[Value.int IntKind.i64 (-N), Value.string nm] 60))
            clear hnm HST HTT
            go_wp2_with (at_builtin; refine wpList_append_own _ rfl (.tmp 60) (.tmp 66) 48 rfl w2.heap.size 60 i0 (.agg #[.int .i64 0, .string ByteArray.empty]) 2 24 HU.out HI.out HZ0.out HZ1.out HZ2.out rfl (by decide) _ _ _ rfl HO3.out ⟨w3.heap.size, 0, none⟩ 1 1 [.int .i64 (-N), .string nm] rfl rfl (cell_two_new _ _ _ _) (by intro u hu; simp at hu; rcases hu with rfl | rfl <;> rfl) (by unfold maxLen; omega) (by omega) (by simp; omega) ?_; intro v5 w5 hown5 hgrow5 _; (obtain ⟨A5, c5, rfl, _, _, _, _⟩ := RowK.of_own hown5); (have NX := Summed.more (t := (-N, nm)) M3.out hz2 ((Below.refl _ _).alloc (Nat.le_refl _) (Obj.cells #[Value.int IntKind.i64 (-N), Value.string nm] 60)) hown5 hgrow5); (have k0 := NX.2.cell 0 (.int .i64 (S j).1) rfl); (have k1 := NX.2.cell 1 u rfl); (have kp1 := NX.2.frozen 1); (have F := Lib.hid NX.1); clear NX hown5 hgrow5)
            go_roundw
            case rel => exact ⟨j + 1, m' + 1 + 2, _, by have := HM.out; omega, by omega, by go_num, by rw [HN2.out]; exact F.out⟩
            case measure => simp [intOf]; omega
        · have hq' : (q.toList == [45]) = false := by rw [ByteArray.toList_eq]; exact beq_eq_false_iff_ne.2 hq
          have HTM := Lib.hid (show termS 999999 ws j = negI false (readS 999999 p.data.toList) by rw [HTM0.out, decide_eq_false hq])
          clear HTM0 hq
          have WD := Lib.hid (WordS.word (p) hpz wr)
          unfold WordS.Word at WD
          have HRS := readS_small (show (1 : Int) ≤ 999999 by omega) ((p).data.toList)
          have HTT := Lib.hid (show S (j + 1) = stepS (S j) ((readS 999999 ((p).data.toList)).1, (readS 999999 ((p).data.toList)).2) by rw [HSN.out, HTM.out]; rfl)
          generalize readS 999999 ((p).data.toList) = t at *
          obtain ⟨N, nm⟩ := t
          simp only at HRS HTT WD
          obtain ⟨hN0, hN1⟩ := HRS
          clear HTM
          go_wp2_with fail
          refine (Calls.mono WD.out) ?_
          rintro e w3 ⟨rfl, b3⟩
          have M3 := Lib.hid (HSU.out.below b3)
          clear b3 HSU RWr
          have HST := HTT.out
          unfold stepS at HST
          simp only at HST
          have v0 := M3.out.1.cell 0 (.int .i64 (S j).1) rfl
          have v1 := M3.out.1.cell 1 u rfl
          have vp0 := M3.out.1.frozen 0
          have vp1 := M3.out.1.frozen 1
          have vlt := M3.out.1.lt
          by_cases hnm : nm.size = 0
          · obtain rfl := name_none hnm
            have HN2 := Lib.hid (show S (j + 1) = (N, (S j).2) by rw [HST, if_pos hnm])
            have F := Lib.hid (M3.out.const hz2 (N))
            clear hnm HST HTT
            go_wp2
            go_roundw
            case rel => exact ⟨j + 1, m' + 1 + 2, _, by have := HM.out; omega, by omega, by go_num, by rw [HN2.out]; exact F.out⟩
            case measure => simp [intOf]; omega
          · have hnf := name_facts hnm
            have HN2 := Lib.hid (show S (j + 1) = ((S j).1, (S j).2 ++ [(N, nm)]) by rw [HST, if_neg hnm])
            have hll := HSL.out j (by have := HM.out; omega)
            have hub := M3.out.2.1.lt
            have hs3 := M3.out.2.2.2.2.size
            have HO3 := Lib.hid (M3.out.2.1.alloc (Obj.cells #[Value.int IntKind.i64 (N), Value.string nm] 60))
            clear hnm HST HTT
            go_wp2_with (at_builtin; refine wpList_append_own _ rfl (.tmp 60) (.tmp 66) 48 rfl w2.heap.size 60 i0 (.agg #[.int .i64 0, .string ByteArray.empty]) 2 24 HU.out HI.out HZ0.out HZ1.out HZ2.out rfl (by decide) _ _ _ rfl HO3.out ⟨w3.heap.size, 0, none⟩ 1 1 [.int .i64 (N), .string nm] rfl rfl (cell_two_new _ _ _ _) (by intro u hu; simp at hu; rcases hu with rfl | rfl <;> rfl) (by unfold maxLen; omega) (by omega) (by simp; omega) ?_; intro v5 w5 hown5 hgrow5 _; (obtain ⟨A5, c5, rfl, _, _, _, _⟩ := RowK.of_own hown5); (have NX := Summed.more (t := (N, nm)) M3.out hz2 ((Below.refl _ _).alloc (Nat.le_refl _) (Obj.cells #[Value.int IntKind.i64 (N), Value.string nm] 60)) hown5 hgrow5); (have k0 := NX.2.cell 0 (.int .i64 (S j).1) rfl); (have k1 := NX.2.cell 1 u rfl); (have kp1 := NX.2.frozen 1); (have F := Lib.hid NX.1); clear NX hown5 hgrow5)
            go_roundw
            case rel => exact ⟨j + 1, m' + 1 + 2, _, by have := HM.out; omega, by omega, by go_num, by rw [HN2.out]; exact F.out⟩
            case measure => simp [intOf]; omega
    · have hjj : j = ws.length / 2 + ws.length % 2 := by have := HM.out; have := HWL.out; omega
      have hge : decide ((m : Int) < (wb.length : Int)) = false := decide_eq_false (by omega)
      have hge' : decide (m < wb.length) = false := decide_eq_false hlt
      have HRS := Lib.hid (fun t (h : t ∈ RR.2) => show t.2.size ≤ 9223372036854775807 from HSZ.out j t (by rw [hjj, ← HSE.out]; exact h))
      have hrl : RR.2.length ≤ 1048577 := by rw [HSE.out, ← hjj]; exact HSL.out j (by omega)
      rw [show S j = RR by rw [hjj, HSE.out]] at HSU
      obtain ⟨z, xs⟩ := RR
      simp only at hrl HRS
      obtain ⟨h1, h2, h3, h4, h5⟩ := HSU.out
      obtain ⟨G, cg, rfl, hO⟩ := owned_terms h2
      have O3 := Lib.hid hO
      have V3 := Lib.hid h1
      have L3 := Lib.hid h4
      have B3 := Lib.hid h3
      have hes := Lib.hid (show s.toList = s.data.toList by rw [ByteArray.toList_eq])
      clear h1 h2 h3 h4 h5 hO HSU hjj hlt HSZ HSL HSN
      have l0 := L3.out.cell 0 (.int .i64 0) rfl
      have l1 := L3.out.cell 1 (.slice none 0 0) rfl
      have p0 := L3.out.frozen 0
      have p1 := L3.out.frozen 1
      have v0 := V3.out.cell 0 (.int .i64 z) rfl
      have v1 := V3.out.cell 1 (.slice G xs.length cg) rfl
      by_cases hse : s.data.toList = []
      · have HPN := Lib.hid (show PP = none by rw [HPE.out, hse, if_neg (fun h => fmtS_ne _ h.2)])
        obtain rfl : s = ByteArray.empty := NameM.toList_inj (by rw [hse]; rfl)
        have HB := Lib.hid ((B3.out.setCell (p := ⟨w.heap.size, 0, none⟩) (Nat.le_refl _) (.int .i64 0)).setCell (p := ⟨w.heap.size, 1, none⟩) (Nat.le_refl _) (.slice none 0 0))
        clear hse hes
        go_wp2
        refine bodyPost_ret (v := .tuple #[.agg #[.int .i64 0, .slice none 0 0], .bool false]) (by simp [results, Tryz.results26, go_sem, l0, l1]) rfl ?_
        rw [HPN.out]
        exact gave_none HB.out
      · have HEE := Lib.hid (end_eqS HPE.out hse)
        have hsn : s.toList.isEmpty = false := by rw [ByteArray.toList_eq]; cases h : s.data.toList with
          | nil => exact absurd h hse
          | cons a l => rfl
        have FO := Lib.hid (ArgP.formatSum z G cg xs wr O3.out.arg (by omega) HRS.out)
        clear hse HPE
        go_wp2_with fail
        refine (Calls.mono FO.out) ?_
        rintro e w6 ⟨rfl, b6⟩
        have L6 := Lib.hid (L3.out.below b6)
        have V6 := Lib.hid (V3.out.below b6)
        have B6 := Lib.hid (B3.out.trans (b6.mono B3.out.size))
        have O6 := Lib.hid (O3.out.below b6)
        have hz6 := b6.size
        clear b6 L3 V3 FO v0 v1 l0 l1 p0 p1
        have l0 := L6.out.cell 0 (.int .i64 0) rfl
        have l1 := L6.out.cell 1 (.slice none 0 0) rfl
        have p0 := L6.out.frozen 0
        have p1 := L6.out.frozen 1
        have v0 := V6.out.cell 0 (.int .i64 z) rfl
        have v1 := V6.out.cell 1 (.slice G xs.length cg) rfl
        by_cases he : FS (z, xs) = s.data.toList
        · have HPS := Lib.hid (show PP = some (z, xs) by rw [HEE.out, if_pos he])
          have heq : (FS (z, xs) == s.toList) = true := by rw [hes.out, he]; simp
          have mm : Mod w.heap.size (w.heap.size + 1) w6 ((w6.setCell ⟨w.heap.size, 0, none⟩ (.int .i64 z)).setCell ⟨w.heap.size, 1, none⟩ (.slice G xs.length cg)) := (Mod.set _ (p := ⟨w.heap.size, 0, none⟩) (Nat.le_refl _) (Nat.lt_succ_self _) _).trans (Mod.set _ (p := ⟨w.heap.size, 1, none⟩) (Nat.le_refl _) (Nat.lt_succ_self _) _)
          have FF := Lib.hid (show GaveSumO w (some (z, xs)) (.returned (.tuple #[.agg #[.int .i64 z, .slice G xs.length cg], .bool true])) _ from ⟨G, cg, rfl, (O6.out.keep mm (Or.inr (by omega))).wider (by omega) (Nat.le_trans hz6 mm.size) (Nat.le_refl _), (B6.out.setCell (p := ⟨w.heap.size, 0, none⟩) (Nat.le_refl _) _).setCell (p := ⟨w.heap.size, 1, none⟩) (Nat.le_refl _) _⟩)
          generalize FS (z, xs) = FT at *
          clear he hes HEE mm
          go_wp2
          refine bodyPost_ret (v := .tuple #[.agg #[.int .i64 z, .slice G xs.length cg], .bool true]) (by simp [results, Tryz.results26, go_sem, l0, l1]) rfl ?_
          rw [HPS.out]
          exact FF.out
        · have HPS := Lib.hid (show PP = none by rw [HEE.out, if_neg he])
          have heq : (FS (z, xs) == s.toList) = false := by rw [hes.out, beq_eq_false_iff_ne]; exact he
          have HB := Lib.hid ((B6.out.setCell (p := ⟨w.heap.size, 0, none⟩) (Nat.le_refl _) (.int .i64 0)).setCell (p := ⟨w.heap.size, 1, none⟩) (Nat.le_refl _) (.slice none 0 0))
          generalize FS (z, xs) = FT at *
          clear he hes HEE
          go_wp2
          refine bodyPost_ret (v := .tuple #[.agg #[.int .i64 0, .slice none 0 0], .bool false]) (by simp [results, Tryz.results26, go_sem, l0, l1]) rfl ?_
          rw [HPS.out]
          exact gave_none HB.out
end ArgP
end Go.Proofs.YtiilopfhlmeaoaaGreatDoor
