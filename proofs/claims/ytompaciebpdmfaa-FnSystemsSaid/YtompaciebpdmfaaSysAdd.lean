import Derived.Test.YtompaciebpdmfaaSysCopy
/-
  The model's AddRow.
-/
namespace Go.Proofs.Ytompaciebpdmfaa
open Go.RowKit
namespace SysS
open RowK Mem LinM

set_option maxHeartbeats 4000000 in
set_option maxRecDepth 100000 in
theorem addRow (n : Int) (A : Option Addr) (c : Nat) (xs : List (Int × List Int)) (zl : Int) (Al : Option Addr) (cl : Nat) (ls : List Int) (lo hi : Nat) (w : World) (hA : SysK.Arg w A xs.length c xs) (hL : Row lo hi w Al (IntK.iv ls)) (hl : linsSize xs + 1 + ls.length ≤ 1000000000) :
    Calls Try.prog 11 #[.agg #[.int .i64 n, .slice A xs.length c], .agg #[.int .i64 zl, .slice Al ls.length cl]] w (SysS.GaveAdd w n xs (zl, ls)) := by
  have hxl : xs.length ≤ 1000000000 := by unfold linsSize at hl; omega
  have hl1 : linsSize xs ≤ 1000000000 := by omega
  have hl2 : linsSize (xs ++ [(zl, ls)]) ≤ 1000000000 := by rw [SysS.linsSize_snoc]; exact hl
  have hl3 : ls.length ≤ 1000000000 := by omega
  have HL := Lib.hid (And.intro hl1 (And.intro hl2 hl3))
  obtain ⟨i0, hi0, hz0, hz1, hz2⟩ := info_parts linInfo
  have HI := Lib.hid hi0
  have HZ0 := Lib.hid hz0
  have HZ1 := Lib.hid hz1
  have HZ2 := Lib.hid hz2
  have hu := Lib.hid Try.underlying24
  have hb0 : Below w.heap.size w (((w.alloc (Obj.cells #[Value.int IntKind.i64 n, Value.slice A xs.length c] 26)).alloc (Obj.cells #[Value.int IntKind.i64 zl, Value.slice Al ls.length cl] 29)).alloc (Obj.cells #[Value.int IntKind.i64 0, Value.slice none 0 0] 26)) := (((Below.refl w.heap.size w).alloc (Nat.le_refl _) _).alloc (by simp) _).alloc (by simp; omega) _
  have CP := Lib.hid (SysS.copy6 n A c xs (((w.alloc (Obj.cells #[Value.int IntKind.i64 n, Value.slice A xs.length c] 26)).alloc (Obj.cells #[Value.int IntKind.i64 zl, Value.slice Al ls.length cl] 29)).alloc (Obj.cells #[Value.int IntKind.i64 0, Value.slice none 0 0] 26)) (hA.below hb0) hl1)
  have S0 := Lib.hid (((Lvar.new w #[Value.int IntKind.i64 n, Value.slice A xs.length c] 26).alloc (Obj.cells #[Value.int IntKind.i64 zl, Value.slice Al ls.length cl] 29)).alloc (Obj.cells #[Value.int IntKind.i64 0, Value.slice none 0 0] 26))
  have U0 := ((Lvar.new (w.alloc (Obj.cells #[Value.int IntKind.i64 n, Value.slice A xs.length c] 26)) #[Value.int IntKind.i64 zl, Value.slice Al ls.length cl] 29).alloc (Obj.cells #[Value.int IntKind.i64 0, Value.slice none 0 0] 26))
  have R0 := (Lvar.new ((w.alloc (Obj.cells #[Value.int IntKind.i64 n, Value.slice A xs.length c] 26)).alloc (Obj.cells #[Value.int IntKind.i64 zl, Value.slice Al ls.length cl] 29)) #[Value.int IntKind.i64 0, Value.slice none 0 0] 26)
  simp only [World.size_alloc] at U0 R0
  have U0 := Lib.hid U0
  have R0 := Lib.hid R0
  have HA := Lib.hid hA
  have HLR := Lib.hid hL
  have B0 := Lib.hid hb0
  clear hi0 hz0 hz1 hz2 hl hl1 hl2 hl3 hA hL hb0
  go_enter Try.func11, Try.ntmps11
  go_wp2_with fail
  refine (Calls.mono CP.out) ?_
  rintro e w1 ⟨v, rfl, hO, b1⟩
  obtain ⟨A1, c1, rfl, _⟩ := SysS.own_slice (lo := 0) hO (fun b _ => Nat.zero_le _)
  have hs1 := b1.size
  simp only [World.size_alloc] at hs1
  have ta : Below w1.heap.size w1 (w1.alloc (Obj.cells #[Value.int IntKind.i64 n, Value.slice A1 xs.length c1] 26)) := (Below.refl _ _).alloc (Nat.le_refl _) _
  have B1 : Below w.heap.size w w1 := B0.out.trans (b1.mono (by simp; omega))
  have BX := Lib.hid (B1.trans (ta.mono B1.size))
  have S2 := Lib.hid ((S0.out.below b1).below ta)
  have U2 := Lib.hid ((U0.out.below b1).below ta)
  have R2 := Lib.hid ((R0.out.below b1).below ta)
  have O2 := Lib.hid (Lvar.new w1 #[Value.int IntKind.i64 n, Value.slice A1 xs.length c1] 26)
  obtain ⟨es, hes, hown, he, hn, hog, hdis⟩ := hO
  have hown : w1.ownsRow 0 29 2 (.slice A1 xs.length c1) xs.length (cells es) := hown
  simp only [World.size_alloc] at hog hdis
  have HOB := Lib.hid (show (Value.slice A1 xs.length c1).ownBlock ≠ some w1.heap.size from fun e => by have := (hown.lt _ e).2; omega)
  have HOB2 := Lib.hid (show (Value.slice A1 xs.length c1).ownBlock ≠ some w.heap.size ∧ (Value.slice A1 xs.length c1).ownBlock ≠ some (w.heap.size + 1) ∧ (Value.slice A1 xs.length c1).ownBlock ≠ some (w.heap.size + 1 + 1) from
    ⟨fun e => by have h9 := hog _ e; omega, fun e => by have h9 := hog _ e; omega, fun e => by have h9 := hog _ e; omega⟩)
  have HES := Lib.hid hes
  have HOW := Lib.hid (hown.alloc (Obj.cells #[Value.int IntKind.i64 n, Value.slice A1 xs.length c1] 26))
  have HOL := Lib.hid hown.lt
  have HEL := Lib.hid (fun x hx => Rep.below (he x hx) ta)
  have HLT := Lib.hid (show ∀ b ∈ fps es, b < w1.heap.size from fun b hb => by
    obtain ⟨x, h6, h7⟩ := List.mem_flatMap.1 hb
    exact lin.lt (he x h6) b h7)
  have HN := Lib.hid hn
  have HOG := Lib.hid hog
  have HDI := Lib.hid hdis
  have hdr : Below (w1.alloc (Obj.cells #[Value.int IntKind.i64 n, Value.slice A1 xs.length c1] 26)).heap.size (w1.alloc (Obj.cells #[Value.int IntKind.i64 n, Value.slice A1 xs.length c1] 26)) (w1.alloc (Obj.cells #[Value.int IntKind.i64 n, Value.slice A1 xs.length c1] 26)).drew := (Below.refl _ _).drew
  have CPL := Lib.hid (LinS.copyC lo hi zl Al cl ls (w1.alloc (Obj.cells #[Value.int IntKind.i64 n, Value.slice A1 xs.length c1] 26)).drew ((HLR.out.below BX.out).below hdr) HL.out.2.2)
  have v20 := O2.out.cell 0 (.int .i64 n) rfl
  have v21 := O2.out.cell 1 (.slice A1 xs.length c1) rfl
  have u20 := U2.out.cell 0 (.int .i64 zl) rfl
  have u21 := U2.out.cell 1 (.slice Al ls.length cl) rfl
  clear hes hown he hn hog hdis b1 ta B1 hdr
  go_wp2_with fail
  go_region_law (first
    | (refine step_append_where rfl _ _ _ rfl 29 i0 (.agg #[.int .i64 0, .slice none 0 0]) 2 32 0 hu.out HI.out HZ0.out HZ1.out HZ2.out rfl (by decide) (.slice A1 xs.length c1) xs.length (cells es) rfl (OW4.out.alloc _) ⟨w4.heap.size, 0, none⟩ 1 1 [.int .i64 zl, .slice C ls.length c'] rfl rfl (World.news_of_block (cs := #[.int .i64 zl, .slice C ls.length c']) (heap_alloc_new w4 _)) (by simp [Value.oneCell']) (by unfold maxLen; omega) (by omega) (Nat.zero_le _) ?_; intro v5 w5 hown5 hgrow5 hwh5; (obtain ⟨A5, c5, rfl, _, _, _, _⟩ := RowK.of_own hown5); (have V25 := lvar_grown (V24.alloc (Obj.cells #[.int .i64 zl, .slice C ls.length c'] 29)) hgrow5 HOB.out); (have v250 := V25.cell 0 (.int .i64 n) rfl); (have v251 := V25.cell 1 (.slice A1 xs.length c1) rfl); (have p250 := V25.frozen 0); (have p251 := V25.frozen 1))
    | (go_simp; go_at_call 41; refine (Calls.mono CPL.out) ?_; rintro e w4 ⟨C, c', rfl, rC, fC, b4, hcC⟩; (have dd : Below (w1.alloc (Obj.cells #[Value.int IntKind.i64 n, Value.slice A1 xs.length c1] 26)).heap.size (w1.alloc (Obj.cells #[Value.int IntKind.i64 n, Value.slice A1 xs.length c1] 26)) w4 := (Below.refl (w1.alloc (Obj.cells #[Value.int IntKind.i64 n, Value.slice A1 xs.length c1] 26)).heap.size (w1.alloc (Obj.cells #[Value.int IntKind.i64 n, Value.slice A1 xs.length c1] 26))).drew.trans b4); (have V24 := O2.out.below dd); (have v240 := V24.cell 0 (.int .i64 n) rfl); (have v241 := V24.cell 1 (.slice A1 xs.length c1) rfl); (have v4l := V24.lt); (have hs4 : (w1.alloc (Obj.cells #[Value.int IntKind.i64 n, Value.slice A1 xs.length c1] 26)).heap.size ≤ w4.heap.size := dd.size); (have OW4 := Lib.hid (HOW.out.kept (StrK.only_below dd none) (by by_cases hv : (Value.slice A1 xs.length c1).ownBlock = none; exact Or.inl hv; exact Or.inr hv)))))
  all_goals
    have ta : Below w4.heap.size w4 (w4.alloc (Obj.cells #[.int .i64 zl, .slice C ls.length c'] 29)) := (Below.refl _ _).alloc (Nat.le_refl _) _
    simp only [World.size_alloc] at hs4
    obtain ⟨fpC, q1, q2, q3⟩ := lin_close (q := true) (z := zl) (rC.below ta) (fun _ => fC.below rC (by rw [IntK.iv_len]; exact Nat.le_refl _) ta) hcC
    have q3 : ∀ b ∈ fpC, w1.heap.size + 1 ≤ b := fun b hb => by have h9 := (q3 b hb).1; simpa [World.drew] using h9
    have RR := Owned.snoc (r := lin) (ok := fun b => w.heap.size + 3 ≤ b ∧ b ≠ w1.heap.size) (m := w1.heap.size + 1) HES.out (fun e h => Rep.below (Rep.below (HEL.out e h) dd) ta) (fun b hb => Nat.lt_succ_of_lt (HLT.out b hb)) HN.out (fun b hb => ⟨⟨by have h9 := (HDI.out b hb).1; omega, fun e => by have h9 := HLT.out b hb; omega⟩, (HDI.out b hb).2⟩) (fun g e => ⟨⟨by have h9 := HOG.out g e; omega, fun e' => by have h9 := (HOL.out g e).2; omega⟩, by have h9 := (HOL.out g e).2; omega⟩) q1 q2 q3 (fun b hb => ⟨by omega, by omega⟩) hown5 hgrow5 hwh5 (by simp; omega)
    have hs5 := hgrow5.size
    simp only [World.size_alloc] at hs5
    have RF := RR.set (b := w1.heap.size) (fun h => h.2 rfl) 1 (.slice A5 (xs.length + 1) c5)
    have S6 := Lib.hid ((lvar_grown ((S2.out.below dd).alloc (Obj.cells #[.int .i64 zl, .slice C ls.length c'] 29)) hgrow5 HOB2.out.1).other (p := ⟨w1.heap.size, 1, none⟩) (by show w.heap.size ≠ w1.heap.size; omega) (.slice A5 (xs.length + 1) c5))
    have R6 := Lib.hid ((lvar_grown ((R2.out.below dd).alloc (Obj.cells #[.int .i64 zl, .slice C ls.length c'] 29)) hgrow5 HOB2.out.2.2).other (p := ⟨w1.heap.size, 1, none⟩) (by show w.heap.size + 1 + 1 ≠ w1.heap.size; omega) (.slice A5 (xs.length + 1) c5))
    have O6 := V25.set 1 (.slice A5 (xs.length + 1) c5)
    have O6 := Lib.hid (show Lvar (w5.setCell ⟨w1.heap.size, 1, none⟩ (.slice A5 (xs.length + 1) c5)) w1.heap.size #[.int .i64 n, .slice A5 (xs.length + 1) c5] by simpa using O6)
    have B6 := Lib.hid ((((BX.out.trans (dd.mono BX.out.size)).alloc (Nat.le_trans BX.out.size dd.size) (Obj.cells #[.int .i64 zl, .slice C ls.length c'] 29)).grown hgrow5 (by simp; omega) (fun g e => by have h9 := HOG.out g e; omega)).setCell (p := ⟨w1.heap.size, 1, none⟩) (by show w.heap.size ≤ w1.heap.size; omega) (.slice A5 (xs.length + 1) c5))
    obtain ⟨A6, c6, e6, hO6⟩ := SysS.own_slice (lo := w.heap.size + 3) RF (fun b h => h.1)
    have hlen : (xs ++ [(zl, ls)]).length = xs.length + 1 := by simp
    rw [hlen] at e6 hO6
    injection e6 with e7 _ e8
    subst e7
    subst e8
    have HO6 := Lib.hid hO6
    have HLE := Lib.hid hlen
    have hsz6 : w1.heap.size + 1 ≤ (w5.setCell ⟨w1.heap.size, 1, none⟩ (Value.slice A5 (xs.length + 1) c5)).heap.size := by simp; omega
    clear RR RF hown5 hgrow5 hwh5 rC fC b4 dd ta V24 v240 v241 V25 v250 v251 p250 p251 OW4 v20 v21 u20 u21 q1 q2 q3 hO6 hlen HOB HOB2 HOW HEL HDI HOG HLT HOL HN HES U2 S2 R2 O2 v4l hs4 hs5
    have s60 := S6.out.cell 0 (.int .i64 n) rfl
    have s61 := S6.out.cell 1 (.slice A xs.length c) rfl
    have o60 := O6.out.cell 0 (.int .i64 n) rfl
    have o61 := O6.out.cell 1 (.slice A5 (xs.length + 1) c5) rfl
    generalize w5.setCell ⟨w1.heap.size, 1, none⟩ (Value.slice A5 (xs.length + 1) c5) = w6 at *
    by_cases hv1 : SysS.sysV n xs = true
    · have VS7 := Lib.hid (SysK.valid n A c xs w6 (HA.out.below B6.out) HL.out.1)
      rw [hv1] at VS7
      go_wp2_with fail
      refine (Calls.mono VS7.out) ?_
      rintro e w7 ⟨rfl, b7⟩
      have B7 := Lib.hid (B6.out.trans (b7.mono B6.out.size))
      have S7 := Lib.hid (S6.out.below b7)
      have R7 := Lib.hid (R6.out.below b7)
      have O7 := Lib.hid (O6.out.below b7)
      have HO7 := Lib.hid (HO6.out.below b7)
      have hsz7 : w1.heap.size + 1 ≤ w7.heap.size := Nat.le_trans hsz6 b7.size
      have s70 := S7.out.cell 0 (.int .i64 n) rfl
      have s71 := S7.out.cell 1 (.slice A xs.length c) rfl
      have o70 := O7.out.cell 0 (.int .i64 n) rfl
      have o71 := O7.out.cell 1 (.slice A5 (xs.length + 1) c5) rfl
      clear b7
      have hv7 := SysK.valid n A5 c5 (xs ++ [(zl, ls)]) w7 (by rw [HLE.out]; exact HO7.out.arg) HL.out.2.1
      rw [HLE.out] at hv7
      have VS8 := Lib.hid hv7
      clear hv7
      by_cases hv2 : SysS.sysV n (xs ++ [(zl, ls)]) = true
      · rw [hv2] at VS8
        go_wp2_with fail
        refine (Calls.mono VS8.out) ?_
        rintro e w8 ⟨rfl, b8⟩
        have B8 := Lib.hid (B7.out.trans (b8.mono B7.out.size))
        have S8 := Lib.hid (S7.out.below b8)
        have R8 := Lib.hid (R7.out.below b8)
        have O8 := Lib.hid (O7.out.below b8)
        have HO8 := Lib.hid (HO7.out.below b8)
        have hsz8 : w1.heap.size + 1 ≤ w8.heap.size := Nat.le_trans hsz7 b8.size
        have s80 := S8.out.cell 0 (.int .i64 n) rfl
        have s81 := S8.out.cell 1 (.slice A xs.length c) rfl
        have o80 := O8.out.cell 0 (.int .i64 n) rfl
        have o81 := O8.out.cell 1 (.slice A5 (xs.length + 1) c5) rfl
        clear b8
        have RZ := R8.out
        have m8 : Mod (w.heap.size + 1 + 1) (w.heap.size + 1 + 1 + 1) w8 ((w8.setCell ⟨w.heap.size + 1 + 1, 0, none⟩ (.int .i64 n)).setCell ⟨w.heap.size + 1 + 1, 1, none⟩ (.slice A5 (xs.length + 1) c5)) := (Mod.set _ (p := ⟨w.heap.size + 1 + 1, 0, none⟩) (Nat.le_refl _) (Nat.lt_succ_self _) _).trans (Mod.set _ (p := ⟨w.heap.size + 1 + 1, 1, none⟩) (Nat.le_refl _) (Nat.lt_succ_self _) _)
        have O9 := HO8.out.keep m8 (Or.inr (by omega))
        have FO := SysS.gaveAdd_yes (w := w) (n := n) (x := (zl, ls)) (A := A5) (c := c5) (by unfold SysS.addB; rw [hv1, hv2]; rfl) (by rw [HLE.out]; exact SysS.own_wider O9 (by omega) O9.1 (Nat.le_refl _)) ((B8.out.setCell (p := ⟨w.heap.size + 1 + 1, 0, none⟩) (by show w.heap.size ≤ w.heap.size + 1 + 1; omega) (.int .i64 n)).setCell (p := ⟨w.heap.size + 1 + 1, 1, none⟩) (by show w.heap.size ≤ w.heap.size + 1 + 1; omega) (.slice A5 (xs.length + 1) c5))
        rw [HLE.out] at FO
        have FO := Lib.hid FO
        have t0 := RZ.cell 0 (.int .i64 0) rfl
        have t1 := RZ.cell 1 (.slice none 0 0) rfl
        have t2 := RZ.frozen 0
        have t3 := RZ.frozen 1
        clear O9 m8
        go_wp2
        refine bodyPost_ret (v := .tuple #[.agg #[.int .i64 n, .slice A5 (xs.length + 1) c5], .bool true]) (by simp [results, Try.results11, go_sem, t0, t1]) rfl FO.out
      · simp only [Bool.not_eq_true] at hv2
        rw [hv2] at VS8
        go_wp2_with fail
        refine (Calls.mono VS8.out) ?_
        rintro e w8 ⟨rfl, b8⟩
        have B8 := Lib.hid (B7.out.trans (b8.mono B7.out.size))
        have S8 := Lib.hid (S7.out.below b8)
        have R8 := Lib.hid (R7.out.below b8)
        have O8 := Lib.hid (O7.out.below b8)
        have HO8 := Lib.hid (HO7.out.below b8)
        have hsz8 : w1.heap.size + 1 ≤ w8.heap.size := Nat.le_trans hsz7 b8.size
        have s80 := S8.out.cell 0 (.int .i64 n) rfl
        have s81 := S8.out.cell 1 (.slice A xs.length c) rfl
        have o80 := O8.out.cell 0 (.int .i64 n) rfl
        have o81 := O8.out.cell 1 (.slice A5 (xs.length + 1) c5) rfl
        clear b8
        have CQ := Lib.hid (SysS.copy6 n A c xs w8 (HA.out.below B8.out) HL.out.1)
        have r80 := R8.out.lt
        go_wp2_with fail
        refine (Calls.mono CQ.out) ?_
        rintro e wz ⟨v8, rfl, hO8, b8⟩
        obtain ⟨A8, c8, rfl, hO9⟩ := SysS.own_slice (lo := w8.heap.size) hO8 (fun b h => h)
        have RZ := R8.out.below b8
        have BZ := B8.out.trans (b8.mono B8.out.size)
        have m8 : Mod (w.heap.size + 1 + 1) (w.heap.size + 1 + 1 + 1) wz ((wz.setCell ⟨w.heap.size + 1 + 1, 0, none⟩ (.int .i64 n)).setCell ⟨w.heap.size + 1 + 1, 1, none⟩ (.slice A8 xs.length c8)) := (Mod.set _ (p := ⟨w.heap.size + 1 + 1, 0, none⟩) (Nat.le_refl _) (Nat.lt_succ_self _) _).trans (Mod.set _ (p := ⟨w.heap.size + 1 + 1, 1, none⟩) (Nat.le_refl _) (Nat.lt_succ_self _) _)
        have O9 := hO9.keep m8 (Or.inr (by omega))
        have FO := Lib.hid (SysS.gaveAdd_no (w := w) (n := n) (x := (zl, ls)) (by unfold SysS.addB; rw [hv1, hv2]; rfl) (SysS.own_wider O9 (by have := B8.out.size; omega) O9.1 (Nat.le_refl _)) ((BZ.setCell (p := ⟨w.heap.size + 1 + 1, 0, none⟩) (by show w.heap.size ≤ w.heap.size + 1 + 1; omega) (.int .i64 n)).setCell (p := ⟨w.heap.size + 1 + 1, 1, none⟩) (by show w.heap.size ≤ w.heap.size + 1 + 1; omega) (.slice A8 xs.length c8)))
        have t0 := RZ.cell 0 (.int .i64 0) rfl
        have t1 := RZ.cell 1 (.slice none 0 0) rfl
        have t2 := RZ.frozen 0
        have t3 := RZ.frozen 1
        clear hO8 hO9 O9 m8 BZ b8
        go_wp2
        refine bodyPost_ret (v := .tuple #[.agg #[.int .i64 n, .slice A8 xs.length c8], .bool false]) (by simp [results, Try.results11, go_sem, t0, t1]) rfl FO.out
    · simp only [Bool.not_eq_true] at hv1
      have VS7 := Lib.hid (SysK.valid n A c xs w6 (HA.out.below B6.out) HL.out.1)
      rw [hv1] at VS7
      go_wp2_with fail
      refine (Calls.mono VS7.out) ?_
      rintro e w7 ⟨rfl, b7⟩
      have B7 := Lib.hid (B6.out.trans (b7.mono B6.out.size))
      have S7 := Lib.hid (S6.out.below b7)
      have R7 := Lib.hid (R6.out.below b7)
      have O7 := Lib.hid (O6.out.below b7)
      have HO7 := Lib.hid (HO6.out.below b7)
      have hsz7 : w1.heap.size + 1 ≤ w7.heap.size := Nat.le_trans hsz6 b7.size
      have s70 := S7.out.cell 0 (.int .i64 n) rfl
      have s71 := S7.out.cell 1 (.slice A xs.length c) rfl
      have o70 := O7.out.cell 0 (.int .i64 n) rfl
      have o71 := O7.out.cell 1 (.slice A5 (xs.length + 1) c5) rfl
      clear b7
      have CQ := Lib.hid (SysS.copy6 n A c xs w7 (HA.out.below B7.out) HL.out.1)
      have r80 := R7.out.lt
      go_wp2_with fail
      refine (Calls.mono CQ.out) ?_
      rintro e w8 ⟨v8, rfl, hO8, b8⟩
      obtain ⟨A8, c8, rfl, hO9⟩ := SysS.own_slice (lo := w7.heap.size) hO8 (fun b h => h)
      have R8 := R7.out.below b8
      have B8 := B7.out.trans (b8.mono B7.out.size)
      have m8 : Mod (w.heap.size + 1 + 1) (w.heap.size + 1 + 1 + 1) w8 ((w8.setCell ⟨w.heap.size + 1 + 1, 0, none⟩ (.int .i64 n)).setCell ⟨w.heap.size + 1 + 1, 1, none⟩ (.slice A8 xs.length c8)) := (Mod.set _ (p := ⟨w.heap.size + 1 + 1, 0, none⟩) (Nat.le_refl _) (Nat.lt_succ_self _) _).trans (Mod.set _ (p := ⟨w.heap.size + 1 + 1, 1, none⟩) (Nat.le_refl _) (Nat.lt_succ_self _) _)
      have O9 := hO9.keep m8 (Or.inr (by omega))
      have FO := Lib.hid (SysS.gaveAdd_no (w := w) (n := n) (x := (zl, ls)) (by unfold SysS.addB; rw [hv1]; rfl) (SysS.own_wider O9 (by have := B7.out.size; omega) O9.1 (Nat.le_refl _)) ((B8.setCell (p := ⟨w.heap.size + 1 + 1, 0, none⟩) (by show w.heap.size ≤ w.heap.size + 1 + 1; omega) (.int .i64 n)).setCell (p := ⟨w.heap.size + 1 + 1, 1, none⟩) (by show w.heap.size ≤ w.heap.size + 1 + 1; omega) (.slice A8 xs.length c8)))
      have t0 := R8.cell 0 (.int .i64 0) rfl
      have t1 := R8.cell 1 (.slice none 0 0) rfl
      have t2 := R8.frozen 0
      have t3 := R8.frozen 1
      clear hO8 hO9 O9 m8 B8 b8
      go_wp2
      refine bodyPost_ret (v := .tuple #[.agg #[.int .i64 n, .slice A8 xs.length c8], .bool false]) (by simp [results, Try.results11, go_sem, t0, t1]) rfl FO.out
end SysS
end Go.Proofs.Ytompaciebpdmfaa
