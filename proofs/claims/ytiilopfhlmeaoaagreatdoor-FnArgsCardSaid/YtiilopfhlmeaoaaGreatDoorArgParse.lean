import Derived.Test.YtiilopfhlmeaoaaGreatDoorTerms
import Derived.Test.YtiilopfhlmeaoaaGreatDoorArgFmt
import Derived.Deep.RegionLaw
/-
  impl.sumOfTerms, impl.ParseSum: the sum whose representation the text is.
-/
namespace Go.Proofs.YtiilopfhlmeaoaaGreatDoor
open Go.RowKit
namespace ArgI
open RowK Mem ArgM TextM TextI CutI

/-- The terms that lie in a row of the call's own. -/
theorem owned_terms {w : World} {base : Nat} {e : TypeId} {v : Value} {ts : List TItem} (h : w.ownsRow base e 2 v ts.length (tcells ts)) : ∃ A c, v = .slice A ts.length c ∧ OwnS term base w.heap.size w A ts.length c ts := by
  refine Owned.ownS (r := term) (e := e) (ok := fun b => base ≤ b) (lo := base) (v := v) (xs := ts) ⟨ts.map fun t => ([], [.int .i64 t.1, .string t.2], t), ?_, ?_, ?_, ?_, fun g hg => (h.lt g hg).1, ?_⟩ (by decide) (fun b hb => hb)
  · simp [vals, Function.comp_def]
  · have e1 : cells (ts.map fun t => (([] : List Nat), [Value.int .i64 t.1, .string t.2], t)) = tcells ts := by simp [cells, tcells, List.flatMap_map]
    rw [e1]
    refine ⟨h.1, ?_⟩
    rcases h.2 with h2 | ⟨g, cap, cur, h2, h3, h4⟩
    · exact Or.inl h2
    · exact Or.inr ⟨g, cap, cur, h2, Nat.zero_le _, h4⟩
  · intro x hx
    obtain ⟨t, _, rfl⟩ := List.mem_map.1 hx
    exact term_close _ _ _ _
  · have e1 : fps (ts.map fun t => (([] : List Nat), [Value.int .i64 t.1, .string t.2], t)) = [] := by simp [fps, List.flatMap_map]
    rw [e1]
    exact List.nodup_nil
  · have e1 : fps (ts.map fun t => (([] : List Nat), [Value.int .i64 t.1, .string t.2], t)) = [] := by simp [fps, List.flatMap_map]
    rw [e1]
    exact fun b hb => by cases hb
/-- A sum in new memory. -/
def GaveSum (w : World) (p : Sm) (e : Ending) (w' : World) : Prop :=
  ∃ A c, e = .returned (.agg #[.int .i64 p.1, .slice A p.2.length c]) ∧ OwnS term w.heap.size w'.heap.size w' A p.2.length c p.2 ∧ Below w.heap.size w w'
theorem foldS_snoc {ts : List TItem} {k : Nat} (h : k < ts.length) (l : Sm) : (ts.take (k + 1)).foldl stepS l = stepS ((ts.take k).foldl stepS l) ts[k] := by
  rw [List.take_add_one, List.getElem?_eq_getElem h, List.foldl_append]
  rfl
/-- The sum so far, in its variable. -/
def Summing (w : World) (L : Sm) (u : Value) (wr : World) : Prop :=
  Lvar wr (w.heap.size + 1) #[.int .i64 L.1, u] ∧ wr.ownsRow (w.heap.size + 2) 60 2 u L.2.length (tcells L.2) ∧ Below w.heap.size w wr ∧ Lvar wr w.heap.size #[.int .i64 0, .slice none 0 0]
theorem Summing.below {w wr w' : World} {L : Sm} {u : Value} (h : Summing w L u wr) (hb : Below wr.heap.size wr w') : Summing w L u w' :=
  ⟨h.1.below hb, h.2.1.kept (StrK.only_below hb none) (by by_cases hv : u.ownBlock = none; exact Or.inl hv; exact Or.inr hv), h.2.2.1.trans (hb.mono h.2.2.1.size), h.2.2.2.below hb⟩
theorem Summing.const {w wr : World} {L : Sm} {u : Value} (h : Summing w L u wr) (x : Int) : Summing w (x, L.2) u (wr.setCell ⟨w.heap.size + 1, 0, none⟩ (.int .i64 x)) := by
  refine ⟨by simpa using h.1.set 0 (.int .i64 x), h.2.1.kept (StrK.only_set wr (w.heap.size + 1) 0 (.int .i64 x)) ?_, h.2.2.1.setCell (p := ⟨w.heap.size + 1, 0, none⟩) (Nat.le_succ _) _, h.2.2.2.other (p := ⟨w.heap.size + 1, 0, none⟩) (by show w.heap.size ≠ w.heap.size + 1; omega) _⟩
  by_cases hv : u.ownBlock = none
  · exact Or.inl hv
  · refine Or.inr fun e => ?_
    have := (h.2.1.lt (w.heap.size + 1) (by simpa using e)).1
    omega
theorem Summing.more {w w3 w4 w5 : World} {L : Sm} {u v : Value} {t : TItem} (h : Summing w L u w3) (h4 : Below w3.heap.size w3 w4) (ho : w5.ownsRow (w.heap.size + 2) 60 2 v (L.2.length + 1) (tcells L.2 ++ [.int .i64 t.1, .string t.2])) (hg : w4.grownBy w5 u.ownBlock) :
    Summing w (L.1, L.2 ++ [t]) v (w5.setCell ⟨w.heap.size + 1, 1, none⟩ v) ∧ Lvar w5 (w.heap.size + 1) #[.int .i64 L.1, u] := by
  have h' := h.below h4
  have hne : ∀ b, b < w.heap.size + 2 → u.ownBlock ≠ some b := fun b hb e => by have := (h.2.1.lt _ e).1; omega
  have hl := lvar_grown h'.1 hg (hne _ (by omega))
  refine ⟨⟨by simpa using hl.set 1 v, ?_, (h'.2.2.1.grown hg h'.2.2.1.size (fun j hj => by have := (h.2.1.lt j hj).1; omega)).setCell (p := ⟨w.heap.size + 1, 1, none⟩) (Nat.le_succ _) _, (lvar_grown h'.2.2.2 hg (hne _ (by omega))).other (p := ⟨w.heap.size + 1, 1, none⟩) (by show w.heap.size ≠ w.heap.size + 1; omega) _⟩, hl⟩
  have e1 : tcells (L.2 ++ [t]) = tcells L.2 ++ [.int .i64 t.1, .string t.2] := by simp [tcells]
  rw [List.length_append, List.length_singleton, e1]
  refine ho.kept (StrK.only_set w5 (w.heap.size + 1) 1 v) ?_
  by_cases hv : v.ownBlock = none
  · exact Or.inl hv
  · refine Or.inr fun e => ?_
    have := (ho.lt (w.heap.size + 1) (by simpa using e)).1
    omega

set_option maxHeartbeats 2000000 in
set_option maxRecDepth 100000 in
theorem sumOf (A : Option Addr) (c : Nat) (ts : List TItem) (w : World) (hA : TRow w A ts) (hl : ts.length ≤ 1048577) :
    Calls Tryz.prog 41 #[.slice A ts.length c] w (GaveSum w (RS ts)) := by
  obtain ⟨i0, hi, hz0, hz1, hz2⟩ := info_parts termInfo9
  have HI := Lib.hid hi
  have HZ0 := Lib.hid hz0
  have HZ1 := Lib.hid hz1
  have HZ2 := Lib.hid hz2
  have HU := Lib.hid Tryz.underlying48
  obtain ⟨S, hS⟩ : ∃ S : Nat → Sm, ∀ k, (ts.take k).foldl stepS (0, []) = S k := ⟨_, fun _ => rfl⟩
  have HS0 : Hid (S 0 = (0, [])) := Lib.hid (by rw [← hS]; rfl)
  have HSN := Lib.hid (fun k (h : k < ts.length) => show S (k + 1) = stepS (S k) ts[k] by rw [← hS, ← hS, foldS_snoc h])
  have HSE : Hid (S ts.length = RS ts) := Lib.hid (by rw [← hS, List.take_length]; rfl)
  have HSL := Lib.hid (fun k => show (S k).2.length ≤ 1048577 by
    rw [← hS]
    have := RS_len (ts.take k) (0, [])
    have h2 := List.length_take_le k ts
    have h3 : (ts.take k).length ≤ ts.length := by simp; omega
    simp at this
    omega)
  have L0 := Lib.hid (show Summing w (S 0) (.slice none 0 0) ((w.alloc (Obj.cells #[Value.int IntKind.i64 0, Value.slice none 0 0] 50)).alloc (Obj.cells #[Value.int IntKind.i64 0, Value.slice none 0 0] 50)) from by
    have h1 := Lvar.new (w.alloc (Obj.cells #[Value.int IntKind.i64 0, Value.slice none 0 0] 50)) #[Value.int IntKind.i64 0, Value.slice none 0 0] 50
    rw [World.size_alloc] at h1
    rw [HS0.out]
    exact ⟨h1, World.ownsRow_nil _ _ _ _, ((Below.refl _ _).alloc (Nat.le_refl _) _).alloc (by simp) _, (Lvar.new w _ _).alloc _⟩)
  clear hS HS0 hi hz0 hz1 hz2
  generalize RS ts = RR at *
  go_enter Tryz.func41, Tryz.ntmps41
  go_wp2
  go_loopw [8] (fun i wr => ∃ (k : Nat) (u : Value), k ≤ ts.length ∧ i = .int .i64 k ∧ Summing w (S k) u wr) (fun i _ => ts.length - (intOf i).toNat)
  case atStart => exact ⟨0, _, Nat.zero_le _, rfl, L0.out⟩
  case round =>
    obtain ⟨k, u, hk, rfl, hS⟩ := hrel
    have HM := Lib.hid hS
    clear hS L0
    have l0 := HM.out.1.cell 0 (.int .i64 (S k).1) rfl
    have l1 := HM.out.1.cell 1 u rfl
    have p0 := HM.out.1.frozen 0
    have hsz := HM.out.2.2.1.size
    have hlv := HM.out.1.lt
    by_cases hlt : k < ts.length
    · obtain ⟨b, o, rfl, hbl, hc⟩ := (hA.below HM.out.2.2.1) (fun e => by rw [e] at hlt; simp at hlt)
      have hc1 := (hc k _ (List.getElem?_eq_getElem hlt)).1
      have hc2 := (hc k _ (List.getElem?_eq_getElem hlt)).2
      have HN := Lib.hid (HSN.out k hlt)
      have hk0 : (0 : Int) ≤ (k : Int) := by omega
      have hk1 : (k : Int) < (ts.length : Int) := by omega
      have hll := HSL.out k
      generalize ts[k] = t at *
      obtain ⟨x, nm⟩ := t
      clear hc
      by_cases hn : nm.size = 0
      · obtain rfl := name_none hn
        have HN2 := Lib.hid (show S (k + 1) = (x, (S k).2) by rw [HN.out, stepS, if_pos hn])
        have al : ∀ W : World, Below W.heap.size W (W.alloc (Obj.cells #[Value.int IntKind.i64 x, Value.string ByteArray.empty] 95)) := fun W => (Below.refl _ _).alloc (Nat.le_refl _) _
        have F1 := Lib.hid ((HM.out.below (al _)).const x)
        have F2 := Lib.hid ((HM.out.const x).below (al _))
        clear al hn
        go_wp2
        go_roundw
        case rel => exact ⟨k + 1, u, by omega, by go_num, by rw [HN2.out]; first | exact F1.out | exact F2.out⟩
        case measure => simp [intOf]; omega
      · have hnf := name_facts hn
        have HN2 := Lib.hid (show S (k + 1) = ((S k).1, (S k).2 ++ [(x, nm)]) by rw [HN.out, stepS, if_neg hn])
        have V3 := Lvar.new wr #[Value.int IntKind.i64 x, Value.string nm] 95
        have M3 := Lib.hid (HM.out.below ((Below.refl _ _).alloc (Nat.le_refl _) (Obj.cells #[Value.int IntKind.i64 x, Value.string nm] 95)))
        have hz3 : wr.heap.size < (wr.alloc (Obj.cells #[Value.int IntKind.i64 x, Value.string nm] 95)).heap.size := by simp
        go_upto_region 7 with fail
        generalize wr.alloc (Obj.cells #[Value.int IntKind.i64 x, Value.string nm] 95) = w3 at *
        clear l0 l1 p0
        have c0 := V3.cell 0 (.int .i64 x) rfl
        have c1 := V3.cell 1 (.string nm) rfl
        have l0 := M3.out.1.cell 0 (.int .i64 (S k).1) rfl
        have l1 := M3.out.1.cell 1 u rfl
        have p1 := M3.out.1.frozen 1
        have hub := M3.out.2.1.lt
        have hs3 := M3.out.2.2.1.size
        have HO3 := Lib.hid (M3.out.2.1.alloc (Obj.cells #[Value.int IntKind.i64 x, Value.string nm] 60))
        clear V3 HM
        go_wp2_with (at_builtin; refine wpList_append_own _ rfl (.tmp 19) (.tmp 25) 48 rfl (w.heap.size + 2) 60 i0 (.agg #[.int .i64 0, .string ByteArray.empty]) 2 24 HU.out HI.out HZ0.out HZ1.out HZ2.out rfl (by decide) _ _ _ rfl HO3.out ⟨w3.heap.size, 0, none⟩ 1 1 [.int .i64 x, .string nm] rfl rfl (cell_two_new _ _ _ _) (by intro u hu; simp at hu; rcases hu with rfl | rfl <;> rfl) (by unfold maxLen; omega) (by omega) (by simp; omega) ?_; intro v5 w5 hown5 hgrow5 _; (obtain ⟨A5, c5, rfl, _, _, _, _⟩ := RowK.of_own hown5); (have NX := Summing.more (t := (x, nm)) M3.out ((Below.refl _ _).alloc (Nat.le_refl _) (Obj.cells #[Value.int IntKind.i64 x, Value.string nm] 60)) hown5 hgrow5); (have k0 := NX.2.cell 0 (.int .i64 (S k).1) rfl); (have k1 := NX.2.cell 1 u rfl); (have p1 := NX.2.frozen 1); (have F := Lib.hid NX.1); clear NX hown5 hgrow5)
        go_roundw
        case rel => exact ⟨k + 1, _, by omega, by go_num, by rw [HN2.out]; exact F.out⟩
        case measure => simp [intOf]; omega
    · obtain rfl : k = ts.length := by omega
      clear l0 l1 p0
      rw [HSE.out] at HM
      obtain ⟨z, xs⟩ := RR
      obtain ⟨h1, h2, h3, h4⟩ := HM.out
      obtain ⟨G, cg, rfl, hO⟩ := owned_terms h2
      have l0 := h1.cell 0 (.int .i64 z) rfl
      have l1 := h1.cell 1 (.slice G xs.length cg) rfl
      have q0 := h4.cell 0 (.int .i64 0) rfl
      have q1 := h4.cell 1 (.slice none 0 0) rfl
      have p0 := h4.frozen 0
      have p1 := h4.frozen 1
      have m1 : Mod w.heap.size (w.heap.size + 1) wr ((wr.setCell ⟨w.heap.size, 0, none⟩ (.int .i64 z)).setCell ⟨w.heap.size, 1, none⟩ (.slice G xs.length cg)) := (Mod.set _ (p := ⟨w.heap.size, 0, none⟩) (Nat.le_refl _) (Nat.lt_succ_self _) _).trans (Mod.set _ (p := ⟨w.heap.size, 1, none⟩) (Nat.le_refl _) (Nat.lt_succ_self _) _)
      have F := Lib.hid (show GaveSum w (z, xs) (.returned (.agg #[.int .i64 z, .slice G xs.length cg])) _ from ⟨G, cg, rfl, (hO.keep m1 (Or.inr (by omega))).wider (by omega) m1.size (Nat.le_refl _), (h3.setCell (p := ⟨w.heap.size, 0, none⟩) (Nat.le_refl _) _).setCell (p := ⟨w.heap.size, 1, none⟩) (Nat.le_refl _) _⟩)
      clear h1 h2 h3 h4 hO m1 HM
      go_wp2
      refine bodyPost_ret (v := .agg #[.int .i64 z, .slice G xs.length cg]) (by simp [results, Tryz.results41, go_sem, q0, q1]) rfl ?_
      exact F.out
/-- A sum in new memory, or none. -/
def GaveSumO (w : World) (o : Option Sm) (e : Ending) (w' : World) : Prop :=
  ∃ A c, e = .returned (.tuple #[.agg #[.int .i64 (o.getD (0, [])).1, .slice A (o.getD (0, [])).2.length c], .bool o.isSome]) ∧ OwnS term w.heap.size w'.heap.size w' A (o.getD (0, [])).2.length c (o.getD (0, [])).2 ∧ Below w.heap.size w w'
theorem gave_none {w w' : World} (hb : Below w.heap.size w w') : GaveSumO w none (.returned (.tuple #[.agg #[.int .i64 0, .slice none 0 0], .bool false])) w' :=
  ⟨none, 0, rfl, OwnS.nil _ _ _ _ (Nat.le_refl _), hb⟩
theorem foldS_mem : ∀ {ts : List TItem} {l : Sm} {t : TItem}, t ∈ (ts.foldl stepS l).2 → t ∈ l.2 ∨ t ∈ ts
  | [], _, _, h => Or.inl h
  | x :: ts, l, t, h => by
    rcases foldS_mem (ts := ts) (l := stepS l x) h with h | h
    · unfold stepS at h
      split at h
      · exact Or.inl h
      · rcases List.mem_append.1 h with h | h
        · exact Or.inl h
        · exact Or.inr (by rw [List.mem_singleton.1 h]; exact List.mem_cons_self)
    · exact Or.inr (List.mem_cons_of_mem _ h)
theorem RS_mem {ts : List TItem} {t : TItem} (h : t ∈ (RS ts).2) : t ∈ ts := by
  rcases foldS_mem (l := ((0, []) : Sm)) h with h | h
  · cases h
  · exact h

set_option maxHeartbeats 2000000 in
set_option maxRecDepth 100000 in
theorem parseSum (s : ByteArray) (w : World) (hsz : s.size ≤ 1048576) (henv : Env w) :
    Calls Tryz.prog 23 #[.string s] w (GaveSumO w (parseS s.data.toList)) := by
  have B0 := Lib.hid ((Below.refl w.heap.size w).alloc (Nat.le_refl _) (Obj.cells #[Value.int IntKind.i64 0, Value.slice none 0 0] 50))
  have L0 := Lib.hid (Lvar.new w #[Value.int IntKind.i64 0, Value.slice none 0 0] 50)
  have SC := Lib.hid (fun W (h : Env W) => scanAll s hsz W h)
  unfold Scanned at SC
  have HPE := Lib.hid (fun ts h => parseS_scan (t := s.data.toList) (ts := ts) h)
  generalize parseS s.data.toList = PP at *
  go_enter Tryz.func23, Tryz.ntmps23
  go_wp2_with fail
  refine (Calls.mono (SC.out _ (henv.below B0.out))) ?_
  rintro e w2 ⟨ts, A, ca, rfl, rA, htl, htn, hsc, b2⟩
  have L2 := Lib.hid (L0.out.below b2)
  have B2 := Lib.hid (B0.out.trans (b2.mono B0.out.size))
  have hz2 := b2.size
  simp only [World.size_alloc] at hz2
  have SO := Lib.hid (sumOf A ca ts w2 rA htl)
  have HPP := Lib.hid (HPE.out ts hsc)
  have hrl := RS_len ts (0, [])
  have HRS := Lib.hid (fun t (h : t ∈ (RS ts).2) => show t.2.size ≤ 9223372036854775807 from Nat.le_trans (htn t (RS_mem h)) (by omega))
  rw [show ts.foldl stepS (0, []) = RS ts from rfl] at hrl
  have hrl2 : (RS ts).2.length ≤ 1000000000 := by simp at hrl; omega
  clear b2 rA htn hsc HPE SC hrl
  generalize RS ts = RR at *
  obtain ⟨z, xs⟩ := RR
  unfold GaveSum at SO
  simp only at SO hrl2 HRS
  go_wp2_with fail
  refine (Calls.mono SO.out) ?_
  rintro e w3 ⟨G, cg, rfl, hO, b3⟩
  have hz3 := b3.size
  have O3 := Lib.hid hO
  have L3 := Lib.hid (L2.out.below b3)
  have B3 := Lib.hid (B2.out.trans (b3.mono B2.out.size))
  clear b3 hO SO L2 L0 B0
  have t4 : Below w3.heap.size w3 (w3.alloc (Obj.cells #[Value.int .i64 z, Value.slice G xs.length cg] 50)) := (Below.refl _ _).alloc (Nat.le_refl _) _
  have T4 := Lib.hid t4
  have VS := Lib.hid (fun W (h : Below w3.heap.size w3 W) => validSum z G cg xs W (O3.out.arg.below h) hrl2 HRS.out)
  have FO := Lib.hid (fun W (h : Below w3.heap.size w3 W) => formatSum z G cg xs W (O3.out.arg.below h) hrl2 HRS.out ((henv.below B3.out).par.pow.below h))
  have L4 := Lib.hid (L3.out.below t4)
  have V4 := Lib.hid (Lvar.new w3 #[Value.int .i64 z, Value.slice G xs.length cg] 50)
  have hes : s.toList = s.data.toList := by rw [ByteArray.toList_eq]
  clear t4 L3
  cases hv : sumV (z, xs) with
  | false =>
    have HPN := Lib.hid (show PP = none by rw [HPP.out, hv]; simp)
    rw [hv] at VS
    clear HPP FO hv hes
    go_wp2_with fail
    refine (Calls.mono (VS.out _ T4.out)) ?_
    rintro e w5 ⟨rfl, b5⟩
    have L5 := Lib.hid (L4.out.below b5)
    have D5 := Lib.hid (T4.out.trans (b5.mono T4.out.size))
    have B5 := Lib.hid (B3.out.trans (D5.out.mono B3.out.size))
    clear b5 L4 V4
    have l0 := L5.out.cell 0 (.int .i64 0) rfl
    have l1 := L5.out.cell 1 (.slice none 0 0) rfl
    have p0 := L5.out.frozen 0
    have p1 := L5.out.frozen 1
    have HB := Lib.hid ((B5.out.setCell (p := ⟨w.heap.size, 0, none⟩) (Nat.le_refl _) (.int .i64 0)).setCell (p := ⟨w.heap.size, 1, none⟩) (Nat.le_refl _) (.slice none 0 0))
    go_wp2
    refine bodyPost_ret (v := .tuple #[.agg #[.int .i64 0, .slice none 0 0], .bool false]) (by simp [results, Tryz.results23, go_sem, l0, l1]) rfl ?_
    rw [HPN.out]
    exact gave_none HB.out
  | true =>
    rw [show FS (z, xs) = fmtS (z, xs) by simp [FS, hv]] at FO
    rw [hv] at VS HPP
    clear hv
    go_wp2_with fail
    refine (Calls.mono (VS.out _ T4.out)) ?_
    rintro e w5 ⟨rfl, b5⟩
    have L5 := Lib.hid (L4.out.below b5)
    have V5 := Lib.hid (V4.out.below b5)
    have D5 := Lib.hid (T4.out.trans (b5.mono T4.out.size))
    clear b5 L4 V4 VS T4
    have v0 := V5.out.cell 0 (.int .i64 z) rfl
    have v1 := V5.out.cell 1 (.slice G xs.length cg) rfl
    go_wp2_with fail
    refine (Calls.mono (FO.out _ D5.out)) ?_
    rintro e w6 ⟨rfl, b6⟩
    have L6 := Lib.hid (L5.out.below b6)
    have V6 := Lib.hid (V5.out.below b6)
    have D6 := Lib.hid (D5.out.trans (b6.mono D5.out.size))
    have B6 := Lib.hid (B3.out.trans (D6.out.mono B3.out.size))
    have O6 := Lib.hid (O3.out.below D6.out)
    have hz6 := D6.out.size
    clear b6 L5 V5 D5 FO v0 v1
    have l0 := L6.out.cell 0 (.int .i64 0) rfl
    have l1 := L6.out.cell 1 (.slice none 0 0) rfl
    have p0 := L6.out.frozen 0
    have p1 := L6.out.frozen 1
    have v0 := V6.out.cell 0 (.int .i64 z) rfl
    have v1 := V6.out.cell 1 (.slice G xs.length cg) rfl
    have q0 := V6.out.frozen 0
    have q1 := V6.out.frozen 1
    by_cases he : fmtS (z, xs) = s.data.toList
    · have HPS := Lib.hid (show PP = some (z, xs) by rw [HPP.out]; simp [he])
      have heq : (fmtS (z, xs) == s.toList) = true := by rw [hes, he]; simp
      have mm : Mod w.heap.size (w.heap.size + 1) w6 ((w6.setCell ⟨w.heap.size, 0, none⟩ (.int .i64 z)).setCell ⟨w.heap.size, 1, none⟩ (.slice G xs.length cg)) := (Mod.set _ (p := ⟨w.heap.size, 0, none⟩) (Nat.le_refl _) (Nat.lt_succ_self _) _).trans (Mod.set _ (p := ⟨w.heap.size, 1, none⟩) (Nat.le_refl _) (Nat.lt_succ_self _) _)
      have FF := Lib.hid (show GaveSumO w (some (z, xs)) (.returned (.tuple #[.agg #[.int .i64 z, .slice G xs.length cg], .bool true])) _ from ⟨G, cg, rfl, (O6.out.keep mm (Or.inr (by omega))).wider (by omega) (Nat.le_trans hz6 mm.size) (Nat.le_refl _), (B6.out.setCell (p := ⟨w.heap.size, 0, none⟩) (Nat.le_refl _) _).setCell (p := ⟨w.heap.size, 1, none⟩) (Nat.le_refl _) _⟩)
      generalize fmtS (z, xs) = FT at *
      clear he hes HPP mm
      go_wp2
      refine bodyPost_ret (v := .tuple #[.agg #[.int .i64 z, .slice G xs.length cg], .bool true]) (by simp [results, Tryz.results23, go_sem, l0, l1]) rfl ?_
      rw [HPS.out]
      exact FF.out
    · have HPS := Lib.hid (show PP = none by rw [HPP.out]; simp [he])
      have heq : (fmtS (z, xs) == s.toList) = false := by rw [hes, beq_eq_false_iff_ne]; exact he
      have HB := Lib.hid ((B6.out.setCell (p := ⟨w.heap.size, 0, none⟩) (Nat.le_refl _) (.int .i64 0)).setCell (p := ⟨w.heap.size, 1, none⟩) (Nat.le_refl _) (.slice none 0 0))
      generalize fmtS (z, xs) = FT at *
      clear he hes HPP
      go_wp2
      refine bodyPost_ret (v := .tuple #[.agg #[.int .i64 0, .slice none 0 0], .bool false]) (by simp [results, Tryz.results23, go_sem, l0, l1]) rfl ?_
      rw [HPS.out]
      exact gave_none HB.out
end ArgI
end Go.Proofs.YtiilopfhlmeaoaaGreatDoor
