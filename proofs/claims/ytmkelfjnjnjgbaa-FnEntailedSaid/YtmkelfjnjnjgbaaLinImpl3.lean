import Derived.Test.YtmkelfjnjnjgbaaLinImpl2
import Derived.Deep.RegionHeld3
/-
  The program's linear expressions: scaled sums.
-/
namespace Go.Proofs.Ytmkelfjnjnjgbaa
open Go.RowKit
namespace LinI
open RowK LinM ArithM

/-- A linear expression in new memory, or none. -/
def GaveO (w : World) (r : Option (Int × List Int)) (e : Ending) (w' : World) : Prop :=
  ∃ A c, e = .returned (.tuple #[.agg #[.int .i64 (r.getD (0, [])).1, .slice A (r.getD (0, [])).2.length c], .bool r.isSome]) ∧ Row w.heap.size w'.heap.size w' A (IntK.iv (r.getD (0, [])).2) ∧ Free w' A (r.getD (0, [])).2.length ∧ Below w.heap.size w w'

/-- .. whose capacity is known. -/
def GaveOC (w : World) (r : Option (Int × List Int)) (e : Ending) (w' : World) : Prop :=
  ∃ A c, e = .returned (.tuple #[.agg #[.int .i64 (r.getD (0, [])).1, .slice A (r.getD (0, [])).2.length c], .bool r.isSome]) ∧ Row w.heap.size w'.heap.size w' A (IntK.iv (r.getD (0, [])).2) ∧ Free w' A (r.getD (0, [])).2.length ∧ Below w.heap.size w w' ∧ (r.getD (0, [])).2.length ≤ c
theorem GaveOC.gave {w w' : World} {r : Option (Int × List Int)} {e : Ending} (h : GaveOC w r e w') : GaveO w r e w' := by
  obtain ⟨A, c, h1, h2, h3, h4, _⟩ := h
  exact ⟨A, c, h1, h2, h3, h4⟩
theorem gaveOC_none {w w' : World} (hb : Below w.heap.size w w') : GaveOC w none (.returned (.tuple #[.agg #[.int .i64 0, .slice none 0 0], .bool false])) w' :=
  ⟨none, 0, rfl, row_nil _ _ _ _, free_zero _ _, hb, Nat.le_refl _⟩

theorem addS_len (z : Int) (zs : List Int) (k u : Int) (us : List Int) : ((addS z zs k u us).getD (0, [])).2.length ≤ 8 := by
  unfold addS
  split
  · rename_i h
    have h1 := vldB_iff.1 h.1
    have h2 := vldB_iff.1 h.2
    rw [addPs_eq]
    cases addP z k u with
    | none => simp
    | some a =>
      simp only [Option.bind_some]
      split
      · simp only [Option.map_some, Option.getD_some]
        rw [pureS_len k zs us (by omega)]
        omega
      · simp
  · simp
theorem gaveO_none {w w' : World} (hb : Below w.heap.size w w') : GaveO w none (.returned (.tuple #[.agg #[.int .i64 0, .slice none 0 0], .bool false])) w' :=
  ⟨none, 0, rfl, row_nil _ _ _ _, free_zero _ _, hb⟩

/-- The sum so far. -/
def Sofar (k : Int) (zs us rs : List Int) : Prop := ∀ j (h1 : j < zs.length) (h2 : j < us.length) (h3 : j < rs.length), addP zs[j] k us[j] = some rs[j]
theorem sofar_snoc {k : Int} {zs us rs : List Int} (h : Sofar k zs us rs) (h1 : rs.length < zs.length) (h2 : rs.length < us.length) (x : Int) (hx : addP zs[rs.length] k us[rs.length] = some x) : Sofar k zs us (rs ++ [x]) := fun j h1 h2 h3 => by
  by_cases e : j < rs.length
  · rw [List.getElem_append_left e]; exact h j h1 h2 e
  · have e2 : j = rs.length := by simp at h3; omega
    subst e2
    simpa using hx
theorem row_snoc (rs : List Int) (n : Nat) (h : rs.length < n) (x : Int) : (rs ++ List.replicate (n - rs.length) 0).set rs.length x = (rs ++ [x]) ++ List.replicate (n - (rs ++ [x]).length) 0 := by
  rw [List.set_append_right _ _ (Nat.le_refl _), Nat.sub_self, show n - rs.length = (n - (rs.length + 1)) + 1 by omega, List.replicate_succ, List.set_cons_zero, List.append_assoc]
  simp

set_option maxHeartbeats 2000000 in
set_option maxRecDepth 100000 in
theorem addScaledC (lo hi lo' hi' : Nat) (z k u : Int) (A B : Option Addr) (c d : Nat) (zs us : List Int) (w : World) (hA : Row lo hi w A (IntK.iv zs)) (hB : Row lo' hi' w B (IntK.iv us)) (hl : zs.length ≤ 1000000000) (hl2 : us.length ≤ 1000000000) :
    Calls Try.prog 73 #[.agg #[.int .i64 z, .slice A zs.length c], .int .i64 k, .agg #[.int .i64 u, .slice B us.length d]] w (GaveOC w (addS z zs k u us)) := by
  have V1 := Lib.hid (fun W (h : Below w.heap.size w W) => valid lo hi z A c zs zs.length W (hA.below h) hl)
  have V2 := Lib.hid (fun W (h : Below w.heap.size w W) => valid lo' hi' u B d us zs.length W (hB.below h) hl2)
  have AP := Lib.hid (fun x y W => addProduct x k y W)
  have bb : Below w.heap.size w (((w.alloc (Obj.cells #[Value.int IntKind.i64 z, Value.slice A zs.length c] 29)).alloc (Obj.cells #[Value.int IntKind.i64 u, Value.slice B us.length d] 29)).alloc (Obj.cells #[Value.int IntKind.i64 0, Value.slice none 0 0] 29)) := (((Below.refl _ _).alloc (Nat.le_refl _) _).alloc (by simp) _).alloc (by simp; omega) _
  have BB := Lib.hid bb
  have L1 := Lib.hid ((((Lvar.new w #[Value.int IntKind.i64 z, Value.slice A zs.length c] 29).alloc (Obj.cells #[Value.int IntKind.i64 u, Value.slice B us.length d] 29)).alloc (Obj.cells #[Value.int IntKind.i64 0, Value.slice none 0 0] 29)))
  have L2 := Lib.hid (((Lvar.new (w.alloc (Obj.cells #[Value.int IntKind.i64 z, Value.slice A zs.length c] 29)) #[Value.int IntKind.i64 u, Value.slice B us.length d] 29).alloc (Obj.cells #[Value.int IntKind.i64 0, Value.slice none 0 0] 29)))
  have L3 := Lib.hid ((Lvar.new ((w.alloc (Obj.cells #[Value.int IntKind.i64 z, Value.slice A zs.length c] 29)).alloc (Obj.cells #[Value.int IntKind.i64 u, Value.slice B us.length d] 29)) #[Value.int IntKind.i64 0, Value.slice none 0 0] 29))
  simp only [World.size_alloc] at L2 L3
  clear bb
  have hRv := Lib.hid (fun (h : ¬ (vldB z zs zs.length = true ∧ vldB u us zs.length = true)) => (show addS z zs k u us = none from if_neg h))
  have hR0 := Lib.hid (fun (h : vldB z zs zs.length = true ∧ vldB u us zs.length = true) (h0 : addP z k u = none) => (show addS z zs k u us = none from by rw [addS, if_pos h, h0]; rfl))
  have hR1 := Lib.hid (fun (h : vldB z zs zs.length = true ∧ vldB u us zs.length = true) j (h1 : j < zs.length) (h2 : j < us.length) (h0 : addP zs[j] k us[j] = none) => (show addS z zs k u us = none from by rw [addS, if_pos h, addPs_none k zs us j h1 h2 h0]; cases addP z k u <;> rfl))
  have hR2 := Lib.hid (fun (h : vldB z zs zs.length = true ∧ vldB u us zs.length = true) (hlen : us.length = zs.length) x rs (h0 : addP z k u = some x) (h1 : rs.length = zs.length) (h2 : Sofar k zs us rs) => (show addS z zs k u us = some (x, rs) from by rw [addS, if_pos h, h0, addPs_mk k zs us rs hlen.symm h1 h2]; rfl))
  generalize addS z zs k u us = R at *
  by_cases h1 : vldB z zs zs.length = true
  · rw [h1] at V1
    by_cases h2 : vldB u us zs.length = true
    · rw [h2] at V2
      have hlen : Hid (us.length = zs.length) := Lib.hid (by have := (vldB_iff.1 h2).2.1; omega)
      have hcnt := Lib.hid (show ∀ x, inC x = true → constL x zs.length = (x, List.replicate zs.length 0) from fun x hx => by
        have h := vldB_iff.1 h1
        have hc : cntB (zs.length : Int) = true := cntB_iff.2 h.1
        rw [constL, if_pos ⟨hc, hx⟩, Int.toNat_natCast])
      have hR0 := Lib.hid (fun h0 => hR0.out ⟨h1, h2⟩ h0)
      have hR1 := Lib.hid (fun j a b h0 => hR1.out ⟨h1, h2⟩ j a b h0)
      have hR2 := Lib.hid (fun x rs h3 h4 h5 => hR2.out ⟨h1, h2⟩ hlen.out x rs h3 h4 h5)
      clear hRv h1 h2
      go_enter Try.func73, Try.ntmps73
      go_wp2_with fail
      refine (V1.out _ BB.out).mono ?_
      rintro e w1 ⟨rfl, b1⟩
      have M1 := Lib.hid (L1.out.below b1)
      have M2 := Lib.hid (L2.out.below b1)
      have M3 := Lib.hid (L3.out.below b1)
      have B1 := Lib.hid (BB.out.trans (b1.mono BB.out.size))
      have hs1 := b1.size
      simp only [World.size_alloc] at hs1
      clear b1 L1 L2 L3 BB V1
      have l2 := M2.out.cell 0 _ rfl
      have l2' := M2.out.cell 1 _ rfl
      go_wp2_with fail
      refine (V2.out _ B1.out).mono ?_
      rintro e w2 ⟨rfl, b2⟩
      have B2 := Lib.hid (B1.out.trans (b2.mono B1.out.size))
      have N1 := Lib.hid (M1.out.below b2)
      have N2 := Lib.hid (M2.out.below b2)
      have N3 := Lib.hid (M3.out.below b2)
      have hs2 := b2.size
      clear b2 M1 M2 M3 V2 l2 l2'
      have l1 := N1.out.cell 0 _ rfl
      have l2 := N2.out.cell 0 _ rfl
      go_wp2_with fail
      refine (AP.out z u _).mono ?_
      rintro e w3 ⟨rfl, b3⟩
      have B3 := Lib.hid (B2.out.trans (b3.mono B2.out.size))
      have M1 := Lib.hid (N1.out.below b3)
      have M2 := Lib.hid (N2.out.below b3)
      have M3 := Lib.hid (N3.out.below b3)
      have hs3 := b3.size
      clear b3 N1 N2 N3 l1 l2 B2 B1
      cases hap : addP z k u with
      | none =>
        have HR := Lib.hid (hR0.out hap)
        clear hap hR0 hR1 hR2
        have l30 := M3.out.cell 0 _ rfl
        have l31 := M3.out.cell 1 _ rfl
        have p30 := M3.out.frozen 0
        have p31 := M3.out.frozen 1
        go_wp2
        have hB : Below w.heap.size w ((w3.setCell ⟨w.heap.size + 1 + 1, 0, none⟩ (.int .i64 0)).setCell ⟨w.heap.size + 1 + 1, 1, none⟩ (.slice none 0 0)) := (B3.out.setCell (by simp; omega) _).setCell (by simp; omega) _
        refine bodyPost_ret (v := .tuple #[.agg #[.int .i64 0, .slice none 0 0], .bool false]) (by simp [results, Try.results73, go_sem, l30, l31]) rfl ?_
        rw [HR.out]
        exact gaveOC_none hB
      | some x =>
        have hx := addP_some hap
        have CO := Lib.hid (fun W => constC x zs.length W)
        rw [hcnt.out x hx.2.1] at CO
        have hR2 := Lib.hid (fun rs h4 h5 => hR2.out x rs hap h4 h5)
        clear hap hx hR0 hcnt
        go_wp2_with fail
        refine (CO.out _).mono ?_
        rintro e w4 ⟨A4, c4, rfl, r4, f4, b4, hc4⟩
        simp only [List.length_replicate] at f4 hc4 ⊢
        have HC4 := Lib.hid hc4
        clear hc4
        have B4 := Lib.hid (B3.out.trans (b4.mono B3.out.size))
        have N1 := Lib.hid (M1.out.below b4)
        have N2 := Lib.hid (M2.out.below b4)
        have N3 := Lib.hid (M3.out.below b4)
        have hs4 := b4.size
        have R4 := Lib.hid r4
        have F4 := Lib.hid f4
        clear b4 M1 M2 M3 CO B3 r4 f4
        go_wp2
        have hs5 : w.heap.size + 1 + 1 + 1 ≤ w3.heap.size := by omega
        have DR := Lib.hid ((Lvar.new w4 #[Value.int IntKind.i64 x, Value.slice A4 zs.length c4] 29))
        have K4 := Lib.hid ((Below.refl w4.heap.size w4).alloc (Nat.le_refl _) (Obj.cells #[Value.int IntKind.i64 x, Value.slice A4 zs.length c4] 29))
        go_loopw [43] (fun i wr => ∃ rs : List Int, rs.length ≤ zs.length ∧ i = .int .i64 rs.length ∧ Sofar k zs us rs ∧ Row w3.heap.size w4.heap.size wr A4 (IntK.iv (rs ++ List.replicate (zs.length - rs.length) 0)) ∧ Free wr A4 zs.length ∧ Mod w3.heap.size w4.heap.size (w4.alloc (Obj.cells #[Value.int IntKind.i64 x, Value.slice A4 zs.length c4] 29)) wr) (fun i _ => zs.length - (intOf i).toNat)
        case atStart => exact ⟨[], Nat.zero_le _, rfl, fun j _ _ h => by simp at h, by simpa using R4.out.below K4.out, F4.out.below R4.out (by simp [IntK.iv]) K4.out, Mod.refl _ _ _⟩
        case round =>
          obtain ⟨rs, hrs, rfl, h1, h2, h3, h4⟩ := hrel
          have P1 := Lib.hid h1
          have P2 := Lib.hid h2
          have P3 := Lib.hid h3
          have P4 := Lib.hid h4
          have hsr := h4.size
          simp only [World.size_alloc] at hsr
          have Q1 := Lib.hid ((N1.out.alloc _).keep h4 (by omega))
          have Q2 := Lib.hid ((N2.out.alloc _).keep h4 (by omega))
          have Q3 := Lib.hid ((N3.out.alloc _).keep h4 (by omega))
          have Q4 := Lib.hid (DR.out.keep h4 (by omega))
          have BW := Lib.hid (below_mod (B4.out.trans (K4.out.mono (by omega))) h4 (by omega) (by simp; omega))
          clear h1 h2 h3 h4 N1 N2 N3 DR K4
          by_cases hlt : rs.length < zs.length
          · obtain ⟨ba, oa, ea, hba, ha⟩ := IntK.at_below hA BW.out hlt
            obtain ⟨bb, ob, eb, hbb, hb⟩ := IntK.at_below hB BW.out (k := rs.length) (by rw [hlen.out]; exact hlt)
            obtain ⟨bc, oc, ec, hbc, hc⟩ := IntK.at_ P2.out (k := rs.length) (by simp; omega)
            have hfr := P3.out (by omega) bc oc ec rs.length hlt
            rw [show (rs ++ List.replicate (zs.length - rs.length) 0)[rs.length]'(by simp; omega) = 0 by rw [List.getElem_append_right (Nat.le_refl _)]; simp] at hc
            subst ea; subst eb; subst ec
            have q1 := Q1.out.cell 1 (.slice (some ⟨ba, oa, none⟩) zs.length c) rfl
            have q2 := Q2.out.cell 1 (.slice (some ⟨bb, ob, none⟩) us.length d) rfl
            have q4 := Q4.out.cell 1 (.slice (some ⟨bc, oc, none⟩) zs.length c4) rfl
            have la := World.block_lt_of_cell? _ _ ha
            have lb := World.block_lt_of_cell? _ _ hb
            have lc := World.block_lt_of_cell? _ _ hc
            have hlt' : rs.length < us.length := by rw [hlen.out]; exact hlt
            have hn := Lib.hid (hR1.out rs.length hlt hlt')
            have hsn := Lib.hid (sofar_snoc P1.out hlt hlt')
            have hk0 : (0 : Int) ≤ (rs.length : Int) := by omega
            have hk1 : (rs.length : Int) < (zs.length : Int) := by omega
            have hk2 : (rs.length : Int) < (us.length : Int) := by omega
            have ST := Lib.hid (fun W (h : Row w3.heap.size w4.heap.size W (some ⟨bc, oc, none⟩) (IntK.iv (rs ++ List.replicate (zs.length - rs.length) 0))) v => (show Row w3.heap.size w4.heap.size (W.setCell ⟨bc, oc + rs.length, none⟩ (.int .i64 v)) (some ⟨bc, oc, none⟩) (IntK.iv ((rs ++ [v]) ++ List.replicate (zs.length - (rs ++ [v]).length) 0)) from by
              have := store_iv h (k := rs.length) (by simp; omega) v
              rwa [row_snoc rs zs.length hlt v] at this))
            have APk := Lib.hid (fun W => AP.out zs[rs.length] us[rs.length] W)
            generalize zs[rs.length] = x1 at *
            generalize us[rs.length] = y1 at *
            clear AP hR1 P1
            cases hap : addP x1 k y1 with
            | none =>
              have HR := Lib.hid (hn.out hap)
              rw [hap] at APk
              clear hn hsn hap hR2 ST
              go_wp2_with fail
              go_region_held3 (fun w' => w'.cell? ⟨w.heap.size, 1, none⟩ = some (.slice (some ⟨ba, oa, none⟩) zs.length c) ∧ w'.cell? ⟨w.heap.size + 1, 1, none⟩ = some (.slice (some ⟨bb, ob, none⟩) us.length d) ∧ w'.cell? ⟨w4.heap.size, 1, none⟩ = some (.slice (some ⟨bc, oc, none⟩) zs.length c4) ∧ w'.cell? ⟨ba, oa + rs.length, none⟩ = some (.int .i64 x1) ∧ w'.cell? ⟨bb, ob + rs.length, none⟩ = some (.int .i64 y1))
                (first | go_keep | (refine ⟨?_, ?_, ?_, ?_, ?_⟩ <;> (rw [b6.cell (by simp; omega)]; simp; assumption)) | (refine ⟨?_, ?_, ?_, ?_, ?_⟩ <;> (rw [World.cell?_setCell_other _ _ _ _ (by intro h; simp only [Addr.mk.injEq] at h; omega), b6.cell (by simp; omega)]; simp; assumption)))
                ((go_at_call 93; refine (Calls.mono (APk.out _)) ?_; rintro e w6 ⟨rfl, b6⟩; (have t1 : w6.cell? ⟨bc, oc + rs.length, none⟩ = some (.int .i64 0) := by rw [b6.cell (by simp; omega)]; simpa using hc); (have t2 : w6.frozen? ⟨bc, oc + rs.length, none⟩ = false := by rw [b6.frozen (by simp; omega)]; simpa using hfr)))
              have d6 : Below wr.heap.size wr w6 := (show Below wr.heap.size wr wr.drew from (Below.refl _ _).drew).trans b6
              have T3 := Lib.hid ((Q3.out.below d6).other (p := ⟨bc, oc + rs.length, none⟩) (show w.heap.size + 1 + 1 ≠ bc by omega) (.int .i64 0))
              have t30 := T3.out.cell 0 (.int .i64 0) rfl
              have t31 := T3.out.cell 1 (.slice none 0 0) rfl
              have p30 := T3.out.frozen 0
              have p31 := T3.out.frozen 1
              have hB : Below w.heap.size w (((w6.setCell ⟨bc, oc + rs.length, none⟩ (.int .i64 0)).setCell ⟨w.heap.size + 1 + 1, 0, none⟩ (.int .i64 0)).setCell ⟨w.heap.size + 1 + 1, 1, none⟩ (.slice none 0 0)) := (((BW.out.trans (d6.mono BW.out.size)).setCell (by show _ ≤ bc; omega) _).setCell (by simp; omega) _).setCell (by simp; omega) _
              have HB := Lib.hid hB
              clear hB b6 d6 Q1 Q2 Q3 Q4 ha hb hc hfr q1 q2 q4 t1 t2
              go_wp2
              refine bodyPost_ret (v := .tuple #[.agg #[.int .i64 0, .slice none 0 0], .bool false]) (by simp [results, Try.results73, go_sem, t30, t31]) rfl ?_
              rw [HR.out]
              exact gaveOC_none HB.out
            | some y =>
              have HSN := Lib.hid (hsn.out y hap)
              rw [hap] at APk
              clear hn hsn hap hR2
              go_wp2_with fail
              go_region_held3 (fun w' => w'.cell? ⟨w.heap.size, 1, none⟩ = some (.slice (some ⟨ba, oa, none⟩) zs.length c) ∧ w'.cell? ⟨w.heap.size + 1, 1, none⟩ = some (.slice (some ⟨bb, ob, none⟩) us.length d) ∧ w'.cell? ⟨w4.heap.size, 1, none⟩ = some (.slice (some ⟨bc, oc, none⟩) zs.length c4) ∧ w'.cell? ⟨ba, oa + rs.length, none⟩ = some (.int .i64 x1) ∧ w'.cell? ⟨bb, ob + rs.length, none⟩ = some (.int .i64 y1))
                (first | go_keep | (refine ⟨?_, ?_, ?_, ?_, ?_⟩ <;> (rw [b6.cell (by simp; omega)]; simp; assumption)) | (refine ⟨?_, ?_, ?_, ?_, ?_⟩ <;> (rw [World.cell?_setCell_other _ _ _ _ (by intro h; simp only [Addr.mk.injEq] at h; omega), b6.cell (by simp; omega)]; simp; assumption)))
                ((go_at_call 93; refine (Calls.mono (APk.out _)) ?_; rintro e w6 ⟨rfl, b6⟩; (have t1 : w6.cell? ⟨bc, oc + rs.length, none⟩ = some (.int .i64 0) := by rw [b6.cell (by simp; omega)]; simpa using hc); (have t2 : w6.frozen? ⟨bc, oc + rs.length, none⟩ = false := by rw [b6.frozen (by simp; omega)]; simpa using hfr)))
              have d6 : Below wr.heap.size wr w6 := (show Below wr.heap.size wr wr.drew from (Below.refl _ _).drew).trans b6
              have S2 := Lib.hid (ST.out _ (P2.out.below d6) y)
              have S3 := Lib.hid ((P3.out.below P2.out (by simp [IntK.iv]; omega) d6).set ⟨bc, oc + rs.length, none⟩ (.int .i64 y))
              have S4 := Lib.hid ((P4.out.trans (Mod.of_below d6)).trans (Mod.set w6 (p := ⟨bc, oc + rs.length, none⟩) hbc.1 hbc.2.1 (.int .i64 y)))
              have hl1 : (rs ++ [y]).length = rs.length + 1 := by simp
              have HL1 := Lib.hid hl1
              clear hl1 b6 d6 Q1 Q2 Q3 Q4 ha hb hc hfr q1 q2 q4 t1 t2 P2 P3 P4 ST APk BW
              go_wp2
              go_roundw
              case rel => exact ⟨rs ++ [y], by rw [HL1.out]; omega, by rw [HL1.out]; go_num, HSN.out, S2.out, S3.out, S4.out⟩
              case measure => simp [intOf]; omega
          · have hfull : rs.length = zs.length := by omega
            have HR := Lib.hid (hR2.out rs hfull P1.out)
            rw [hfull, Nat.sub_self] at P2
            simp only [List.replicate_zero, List.append_nil] at P2
            have hll : decide (zs.length < zs.length) = false := by simp
            have q30 := Q3.out.cell 0 (.int .i64 0) rfl
            have q31 := Q3.out.cell 1 (.slice none 0 0) rfl
            have p30 := Q3.out.frozen 0
            have p31 := Q3.out.frozen 1
            have q40 := Q4.out.cell 0 (.int .i64 x) rfl
            have q41 := Q4.out.cell 1 (.slice A4 zs.length c4) rfl
            have hk := keep_row (mid := w.heap.size + 3) BW.out P2.out (by rw [hfull]; exact P3.out)
              ((Mod.set wr (p := ⟨w.heap.size + 1 + 1, 0, none⟩) (by simp; omega) (by simp) (.int .i64 x)).trans (Mod.set _ (p := ⟨w.heap.size + 1 + 1, 1, none⟩) (by simp; omega) (by simp) (.slice A4 zs.length c4))) (by omega) (by omega) (by omega)
            have HK := Lib.hid hk
            have HF := Lib.hid hfull
            have hge : decide ((rs.length : Int) < (zs.length : Int)) = false := by simp; omega
            clear hk hfull P1 P2 P3 P4 Q1 Q2 Q3 Q4 BW AP hR1 hR2
            go_wp2
            refine bodyPost_ret (v := .tuple #[.agg #[.int .i64 x, .slice A4 zs.length c4], .bool true]) (by simp [results, Try.results73, go_sem, q30, q31]) rfl ⟨A4, c4, ?_, ?_⟩
            · rw [HR.out]; simp [HF.out]
            · rw [HR.out]; exact ⟨HK.out.1, HK.out.2.1, HK.out.2.2, by have := HF.out; have := HC4.out; simp; omega⟩
    · have HR := Lib.hid (hRv.out (fun h => h2 h.2))
      simp only [Bool.not_eq_true] at h2
      rw [h2] at V2
      clear hRv hR0 hR1 hR2 h1 h2
      go_enter Try.func73, Try.ntmps73
      go_wp2_with fail
      refine (V1.out _ BB.out).mono ?_
      rintro e w1 ⟨rfl, b1⟩
      have M2 := Lib.hid (L2.out.below b1)
      have M3 := Lib.hid (L3.out.below b1)
      have B1 := Lib.hid (BB.out.trans (b1.mono BB.out.size))
      clear b1 L1 L2 L3 BB V1
      have l2 := M2.out.cell 0 _ rfl
      have l2' := M2.out.cell 1 _ rfl
      go_wp2_with fail
      refine (V2.out _ B1.out).mono ?_
      rintro e w2 ⟨rfl, b2⟩
      have B2 := Lib.hid (B1.out.trans (b2.mono B1.out.size))
      have N3 := Lib.hid (M3.out.below b2)
      clear b2 M2 M3 V2 l2 l2'
      have q30 := N3.out.cell 0 (.int .i64 0) rfl
      have q31 := N3.out.cell 1 (.slice none 0 0) rfl
      have p30 := N3.out.frozen 0
      have p31 := N3.out.frozen 1
      have HB := Lib.hid ((B2.out.setCell (p := ⟨w.heap.size + 1 + 1, 0, none⟩) (by simp; omega) (.int .i64 0)).setCell (p := ⟨w.heap.size + 1 + 1, 1, none⟩) (by simp; omega) (.slice none 0 0))
      go_wp2
      refine bodyPost_ret (v := .tuple #[.agg #[.int .i64 0, .slice none 0 0], .bool false]) (by simp [results, Try.results73, go_sem, q30, q31]) rfl ?_
      rw [HR.out]
      exact gaveOC_none HB.out
  · have HR := Lib.hid (hRv.out (fun h => h1 h.1))
    simp only [Bool.not_eq_true] at h1
    rw [h1] at V1
    clear hRv hR0 hR1 hR2 h1
    go_enter Try.func73, Try.ntmps73
    go_wp2_with fail
    refine (V1.out _ BB.out).mono ?_
    rintro e w1 ⟨rfl, b1⟩
    have M3 := Lib.hid (L3.out.below b1)
    have B1 := Lib.hid (BB.out.trans (b1.mono BB.out.size))
    clear b1 L1 L2 L3 BB V1
    have q30 := M3.out.cell 0 (.int .i64 0) rfl
    have q31 := M3.out.cell 1 (.slice none 0 0) rfl
    have p30 := M3.out.frozen 0
    have p31 := M3.out.frozen 1
    have HB := Lib.hid ((B1.out.setCell (p := ⟨w.heap.size + 1 + 1, 0, none⟩) (by simp; omega) (.int .i64 0)).setCell (p := ⟨w.heap.size + 1 + 1, 1, none⟩) (by simp; omega) (.slice none 0 0))
    go_wp2
    refine bodyPost_ret (v := .tuple #[.agg #[.int .i64 0, .slice none 0 0], .bool false]) (by simp [results, Try.results73, go_sem, q30, q31]) rfl ?_
    rw [HR.out]
    exact gaveOC_none HB.out
theorem addScaled (lo hi lo' hi' : Nat) (z k u : Int) (A B : Option Addr) (c d : Nat) (zs us : List Int) (w : World) (hA : Row lo hi w A (IntK.iv zs)) (hB : Row lo' hi' w B (IntK.iv us)) (hl : zs.length ≤ 1000000000) (hl2 : us.length ≤ 1000000000) :
    Calls Try.prog 73 #[.agg #[.int .i64 z, .slice A zs.length c], .int .i64 k, .agg #[.int .i64 u, .slice B us.length d]] w (GaveO w (addS z zs k u us)) :=
  (addScaledC lo hi lo' hi' z k u A B c d zs us w hA hB hl hl2).mono fun _ _ h => h.gave
end LinI
end Go.Proofs.Ytmkelfjnjnjgbaa
