import Derived.Test.YtmkelfjnjnjgbaaElimCat
import Derived.Test.YtmkelfjnjnjgbaaElimDel
import Derived.Test.YtmkelfjnjnjgbaaElimCan
import Derived.Test.YtmkelfjnjnjgbaaElimStart
import Derived.Test.YtmkelfjnjnjgbaaSysImpl
import Derived.Deep.AppendLies
/-
  The program's search: its first rows.
-/
namespace Go.Proofs.Ytmkelfjnjnjgbaa
open Go.RowKit
namespace ElimM
open LinM ArithM FarkM
/-- The first rows, if the system is valid and the target's negation can be computed. -/
def firstD (N : Int) (xs : List (Int × List Int)) (t : Int × List Int) : Option (List DR) := if SysS.sysV N xs = true then (negT N t).map fun g => rowsD xs.length (xs ++ [g]) else none
theorem rows_snoc (m : Nat) (xs : List (Int × List Int)) (g : Int × List Int) : rowsD m (xs ++ [g]) = rowsD m xs ++ [(g, unit m xs.length)] := by
  unfold rowsD
  rw [List.mapIdx_append]
  simp
theorem negT_tgt {N : Int} {t g : Int × List Int} (hN : cntB N = true) (h : negT N t = some g) : vldB t.1 t.2 N = true := by
  have h2 : ((constL (-1) N).2.length : Int) = N := by
    unfold constL
    rw [if_pos ⟨hN, by decide⟩]
    have := cntB_iff.1 hN
    simp
    omega
  unfold negT addS at h
  split at h
  · rename_i hv
    rw [← h2]
    exact hv.2
  · cases h
theorem find_first (N : Int) (xs : List (Int × List Int)) (t : Int × List Int) : findF N xs t = (firstD N xs t).bind fun L => (elimN L N.toNat).bind fun M => pickD N xs t M := by
  unfold findF firstD
  by_cases hs : SysS.sysV N xs = true
  · rw [if_pos hs]
    have hc : cntB N = true := by
      unfold SysS.sysV at hs
      simp only [Bool.and_eq_true] at hs
      exact hs.2.1
    by_cases hv : vldB t.1 t.2 N = true
    · rw [if_pos ⟨hs, hv⟩]
      unfold startD
      cases negT N t with
      | none => rfl
      | some g => simp [rows_snoc]
    · rw [if_neg (fun h => hv h.2)]
      cases hn : negT N t with
      | none => rfl
      | some g => exact absurd (negT_tgt hc hn) hv
  · rw [if_neg hs, if_neg (fun h => hs h.1)]
    rfl
end ElimM
namespace ElimI
open RowK Mem ElimM ElimS ArithM LinM LinI

/-- A list of derived rows, or none. -/
def GaveOL (w : World) (r : Option (List DR)) (e : Ending) (w' : World) : Prop :=
  ∃ A n c, e = .returned (.tuple #[.slice A n c, .bool r.isSome]) ∧ (∀ L, r = some L → n = L.length ∧ ∃ fp, drs.rep false w' fp [.slice A n c] L) ∧ Below w.heap.size w w'
theorem gaveOL_none {w w' : World} (hb : Below w.heap.size w w') : GaveOL w none (.returned (.tuple #[.slice none 0 0, .bool false])) w' := ⟨none, 0, 0, rfl, fun _ h => (by cases h), hb⟩

def zeroDR : El DR := ([], [.int .i64 0, .slice none 0 0, .slice none 0 0], ((0, []), []))
theorem run_mkD (n : Nat) (hn : n ≤ 1000000000) (u : World) : (Instr.makeSlice 64 (.int .i64 (n : Int)) (.int .i64 (n : Int))).run Try.prog u =
    .ok (.slice (some ⟨u.heap.size, 0, none⟩) n n) (u.alloc (.cells (madeCells #[.int .i64 0, .slice none 0 0, .slice none 0 0] (n * 3)) 70)) := by
  obtain ⟨i0, hi, hz0, hz1, hz2⟩ := info_parts drInfoI
  have h := run_make (P := Try.prog) u 64 70 i0 (.agg #[.int .i64 0, .slice none 0 0, .slice none 0 0]) Try.underlying64 hi hz0 .i64 .i64 (n : Int) (n : Int) (by omega) (Int.le_refl _) (by rw [hz2]; omega) (by omega)
  simpa [hz1, Value.cells] using h
theorem made_z3 (n : Nat) : (madeCells #[.int .i64 0, .slice none 0 0, .slice none 0 0] (n * 3)).toList = cells (List.replicate n zeroDR) := by
  apply List.ext_getElem?
  intro i
  have hlen : (cells (List.replicate n zeroDR)).length = n * 3 := by
    rw [cells_len (n := 3) (fun x hx => by rw [(List.mem_replicate.1 hx).2]; rfl), List.length_replicate]
  by_cases hi : i < n * 3
  · have h3 : i = i / 3 * 3 + i % 3 := by omega
    have hq : i / 3 < n := by omega
    have hr : i % 3 < 3 := by omega
    have hc := cells_at (n := 3) (es := List.replicate n zeroDR) (fun x hx => by rw [(List.mem_replicate.1 hx).2]; rfl) (k := i / 3) (i := i % 3) (by simpa using hq) hr
    rw [← h3] at hc
    rw [hc]
    simp only [List.getElem_replicate, zeroDR]
    rw [Array.getElem?_toList]
    unfold madeCells
    simp [hi]
    have : i % 3 = 0 ∨ i % 3 = 1 ∨ i % 3 = 2 := by omega
    rcases this with h | h | h <;> simp [h]
  · rw [List.getElem?_eq_none (show (madeCells #[Value.int .i64 0, .slice none 0 0, .slice none 0 0] (n * 3)).toList.length ≤ i by rw [Array.length_toList, size_madeCells]; omega), List.getElem?_eq_none (by omega)]
/-- The rows so far. -/
def FstRel (u : World) (n : Nat) (L : List DR) (s : Value) (wr : World) : Prop :=
  ∃ (k : Nat) (es : List (El DR)), k ≤ n ∧ s = .int .i64 k ∧ es.length = k ∧ vals es = L.take k ∧ wr.ownsRow u.heap.size 70 3 (.slice (some ⟨u.heap.size, 0, none⟩) n n) n (cells (es ++ List.replicate (n - k) zeroDR)) ∧ (∀ x ∈ es, dr.rep false wr x.1 x.2.1 x.2.2) ∧ (∀ b ∈ fps es, b ≠ u.heap.size) ∧ Below u.heap.size u wr
theorem fstRel_start (u : World) (n : Nat) (L : List DR) (hn : n ≤ 1000) : FstRel u n L (.int .i64 (0 : Nat)) (u.alloc (.cells (madeCells #[.int .i64 0, .slice none 0 0, .slice none 0 0] (n * 3)) 70)) := by
  refine ⟨0, [], Nat.zero_le _, rfl, rfl, rfl, ⟨?_, Or.inr ⟨u.heap.size, n, _, rfl, Nat.le_refl _, heap_alloc_new _ _, Nat.le_refl _, by unfold maxLen; omega, by rw [size_madeCells], ?_⟩⟩, (fun _ h => by cases h), (fun _ h => by cases h), (Below.refl _ _).alloc (Nat.le_refl _) _⟩
  · rw [List.nil_append, Nat.sub_zero, cells_len (n := 3) (fun x hx => by rw [(List.mem_replicate.1 hx).2]; rfl), List.length_replicate]
  · rw [List.nil_append, Nat.sub_zero, made_z3, List.take_of_length_le]
    rw [cells_len (n := 3) (fun x hx => by rw [(List.mem_replicate.1 hx).2]; rfl), List.length_replicate]
    exact Nat.le_refl _
/-- A slice of one expression. -/
theorem lins_of1 {w : World} {b d : Nat} {B : Option Addr} {z : Int} {zs : List Int} {f : List Nat} (V : Lvar w b #[.int .i64 z, .slice B zs.length d]) (h : lin.rep false w f [.int .i64 z, .slice B zs.length d] (z, zs)) : lins.rep false w (b :: f) [.slice (some ⟨b, 0, none⟩) 1 1] [(z, zs)] := by
  refine ⟨some ⟨b, 0, none⟩, 1, rfl, Nat.le_refl _, Or.inr ⟨b, 0, [(f, [.int .i64 z, .slice B zs.length d], (z, zs))], rfl, rfl, by simp, by simp [fps], V.lt, fun x hx => ?_, ?_, fun h => by cases h⟩⟩
  · rw [List.mem_singleton.1 hx]
    exact h
  · have := V.row.1
    simpa [cells] using this
theorem listed_slice' {base : Nat} {w : World} {v : Value} {M : List DR} (h : Listed dr 70 base w v M) : ∃ A c fp, v = .slice A M.length c ∧ drs.rep false w fp [.slice A M.length c] M := Listed.rep h (by decide)
theorem lins_at_rep {q : Bool} {w : World} {fp : List Nat} {A : Option Addr} {n c : Nat} {xs : List (Int × List Int)} (h : lins.rep q w fp [.slice A n c] xs) {k : Nat} (hk : k < xs.length) :
    ∃ b o f B d, A = some ⟨b, o, none⟩ ∧ b < w.heap.size ∧ w.cell? ⟨b, o + k * 2, none⟩ = some (.int .i64 xs[k].1) ∧ w.cell? ⟨b, o + k * 2 + 1, none⟩ = some (.slice B xs[k].2.length d) ∧ lin.rep false w f [.int .i64 xs[k].1, .slice B xs[k].2.length d] xs[k] := by
  obtain ⟨b, o, f, cs, rfl, hb, hr, hc, hf⟩ := slice_at h hk
  obtain ⟨B, d, lo, hi, rfl, h1, h2, _⟩ := lin_open hr
  exact ⟨b, o, f, B, d, rfl, hb, hc 0 (by decide), hc 1 (by decide), lin.loose hr⟩
theorem dr_with {w : World} {f : List Nat} {B M : Option Addr} {z : Int} {zs ms : List Int} {d e lo hi : Nat} (h1 : lin.rep false w f [.int .i64 z, .slice B zs.length d] (z, zs)) (h2 : Row lo hi w M (IntK.iv ms)) (he : ms.length ≤ e) :
    ∃ g, dr.rep false w g [.int .i64 z, .slice B zs.length d, .slice M ms.length e] ((z, zs), ms) ∧ ∀ i ∈ g, i ∈ f ∨ lo ≤ i := by
  obtain ⟨f2, g2, _, k2⟩ := ints_close (q := false) h2 (fun h => by cases h) he
  refine ⟨f ++ f2, ⟨f, f2, _, _, rfl, rfl, h1, g2⟩, fun i hi => ?_⟩
  rcases List.mem_append.1 hi with h | h
  · exact Or.inl h
  · exact Or.inr (k2 i h).1
/-- One row more. -/
theorem fst_snoc {u wr w1 : World} {n m k bm d1 : Nat} {L : List DR} {es : List (El DR)} {z : Int} {zs : List Int} {B : Option Addr} {f : List Nat} (hn : n = m + 1) (hk : k < n) (hel : es.length = k) (hes : vals es = L.take k) (hL : L.take (k + 1) = L.take k ++ [((z, zs), unit m k)])
    (hwr : Below u.heap.size u wr) (b1 : Below wr.heap.size wr w1) (hbm : wr.heap.size ≤ bm) (_hbm2 : bm < w1.heap.size) (hu : u.heap.size < wr.heap.size)
    (own : wr.ownsRow u.heap.size 70 3 (.slice (some ⟨u.heap.size, 0, none⟩) n n) n (cells (es ++ List.replicate (n - k) zeroDR))) (he : ∀ x ∈ es, dr.rep false wr x.1 x.2.1 x.2.2) (hd : ∀ b ∈ fps es, b ≠ u.heap.size)
    (hrow : Row bm (bm + 1) w1 (some ⟨bm, 0, none⟩) (IntK.iv (List.replicate n 0))) (hrep : lin.rep false u f [.int .i64 z, .slice B zs.length d1] (z, zs)) :
    FstRel u n L (.int .i64 ((k : Int) + 1)) ((((w1.setCell ⟨u.heap.size, k * 3, none⟩ (.int .i64 z)).setCell ⟨u.heap.size, k * 3 + 1, none⟩ (.slice B zs.length d1)).setCell ⟨u.heap.size, k * 3 + 2, none⟩ (.slice (some ⟨bm, 0, none⟩) n n)).setCell ⟨bm, k, none⟩ (.int .i64 1)) := by
  have own1 : w1.ownsRow u.heap.size 70 3 (.slice (some ⟨u.heap.size, 0, none⟩) n n) n (cells (es ++ List.replicate (n - k) zeroDR)) := own_mod own b1
  have hst := (((own1.stored (k * 3) (.int .i64 z)).1.stored (k * 3 + 1) (.slice B zs.length d1)).1.stored (k * 3 + 2) (.slice (some ⟨bm, 0, none⟩) n n)).1
  have mm : Mod u.heap.size (u.heap.size + 1) w1 (((w1.setCell ⟨u.heap.size, k * 3, none⟩ (.int .i64 z)).setCell ⟨u.heap.size, k * 3 + 1, none⟩ (.slice B zs.length d1)).setCell ⟨u.heap.size, k * 3 + 2, none⟩ (.slice (some ⟨bm, 0, none⟩) n n)) :=
    ((Mod.set _ (p := ⟨u.heap.size, k * 3, none⟩) (Nat.le_refl _) (Nat.lt_succ_self _) _).trans (Mod.set _ (p := ⟨u.heap.size, k * 3 + 1, none⟩) (Nat.le_refl _) (Nat.lt_succ_self _) _)).trans (Mod.set _ (p := ⟨u.heap.size, k * 3 + 2, none⟩) (Nat.le_refl _) (Nat.lt_succ_self _) _)
  generalize (((w1.setCell ⟨u.heap.size, k * 3, none⟩ (.int .i64 z)).setCell ⟨u.heap.size, k * 3 + 1, none⟩ (.slice B zs.length d1)).setCell ⟨u.heap.size, k * 3 + 2, none⟩ (.slice (some ⟨bm, 0, none⟩) n n)) = w2 at *
  have hrow2 := hrow.keep mm (Or.inr (by omega))
  have hrow3 := store_iv hrow2 (k := k) (by simpa using hk) 1
  rw [Nat.zero_add] at hrow3
  have mb : Mod bm (bm + 1) w2 (w2.setCell ⟨bm, k, none⟩ (.int .i64 1)) := Mod.set _ (p := ⟨bm, k, none⟩) (Nat.le_refl _) (Nat.lt_succ_self _) _
  have hu1 : (List.replicate n (0 : Int)).set k 1 = unit m k := by unfold unit; rw [hn]
  rw [hu1] at hrow3
  have bu1 : Below u.heap.size u w1 := hwr.trans (b1.mono hwr.size)
  have hs1 := b1.size
  have hlf := lin.lt hrep
  have hrep3 : lin.rep false (w2.setCell ⟨bm, k, none⟩ (.int .i64 1)) f [.int .i64 z, .slice B zs.length d1] (z, zs) := Rep.keep (Rep.keep (Rep.below hrep bu1) mm (fun b hb => by have := hlf b hb; omega)) mb (fun b hb => by have := hlf b hb; omega)
  obtain ⟨gd, hgd, hgi⟩ := dr_with hrep3 hrow3 (e := n) (by rw [unit_len]; omega)
  have hz3 : ∀ x ∈ es ++ List.replicate (n - k) zeroDR, x.2.1.length = 3 := fun x hx => by
    rcases List.mem_append.1 hx with h | h
    · exact dr.len (he x h)
    · rw [(List.mem_replicate.1 h).2]; rfl
  rw [cells_set3 (f := gd) (r := ((z, zs), unit m k)) hz3 (by rw [List.length_append, List.length_replicate]; omega)] at hst
  have hset : (es ++ List.replicate (n - k) zeroDR).set k (gd, [.int .i64 z, .slice B zs.length d1, .slice (some ⟨bm, 0, none⟩) n n], ((z, zs), unit m k)) = (es ++ [(gd, [.int .i64 z, .slice B zs.length d1, .slice (some ⟨bm, 0, none⟩) n n], ((z, zs), unit m k))]) ++ List.replicate (n - (k + 1)) zeroDR := by
    rw [List.set_append_right _ _ (by omega), hel, Nat.sub_self, show n - k = (n - (k + 1)) + 1 by omega, List.replicate_succ, List.set_cons_zero, List.append_assoc]
    rfl
  rw [hset] at hst
  have hlt : ∀ x ∈ es, ∀ b ∈ x.1, b < wr.heap.size := fun x hx b hb => dr.lt (he x hx) b hb
  refine ⟨k + 1, es ++ [(gd, [.int .i64 z, .slice B zs.length d1, .slice (some ⟨bm, 0, none⟩) n n], ((z, zs), unit m k))], by omega, by go_num, by simp [hel], by rw [vals_append, hes, hL]; rfl, hst.kept (StrK.only_set w2 bm k _) (Or.inr (fun e => ?_)), fun x hx => ?_, fun b hb => ?_, ?_⟩
  · have e' := Option.some.inj (show some bm = some u.heap.size from by first | exact e | exact e.symm)
    omega
  · rcases List.mem_append.1 hx with h | h
    · exact Rep.keep (Rep.keep (Rep.below (he x h) b1) mm (fun b hb => by have := hd b (mem_fps h hb); omega)) mb (fun b hb => by have := hlt x h b hb; omega)
    · rw [List.mem_singleton.1 h]
      have h2 := hgd
      rw [show (unit m k).length = n by rw [unit_len, hn]] at h2
      exact h2
  · rw [fps_append] at hb
    rcases List.mem_append.1 hb with h | h
    · exact hd b h
    · have h2 : b ∈ gd := by simpa [fps] using h
      rcases hgi b h2 with h3 | h3
      · have := hlf b h3; omega
      · omega
  · exact below_mod (below_mod bu1 mm (Nat.le_refl _) bu1.size) mb (by omega) (Nat.le_trans bu1.size mm.size)

set_option maxHeartbeats 8000000 in
set_option maxRecDepth 100000 in
theorem firstRows (lo hi : Nat) (N : Int) (A T : Option Addr) (c d : Nat) (xs : List (Int × List Int)) (tz : Int) (ts : List Int) (w : World) (hA : SysK.Arg w A xs.length c xs) (hl : linsSize xs ≤ 1000000000) (hT : Row lo hi w T (IntK.iv ts)) (hlt : ts.length ≤ 1000000000) :
    Calls Try.prog 37 #[.agg #[.int .i64 N, .slice A xs.length c], .agg #[.int .i64 tz, .slice T ts.length d]] w (GaveOL w (firstD N xs (tz, ts))) := by
  have bb : Below w.heap.size w ((w.alloc (Obj.cells #[Value.int IntKind.i64 N, Value.slice A xs.length c] 26)).alloc (Obj.cells #[Value.int IntKind.i64 tz, Value.slice T ts.length d] 29)) := ((Below.refl _ _).alloc (Nat.le_refl _) _).alloc (by simp) _
  have V0 := Lib.hid ((Lvar.new w #[Value.int IntKind.i64 N, Value.slice A xs.length c] 26).alloc (Obj.cells #[Value.int IntKind.i64 tz, Value.slice T ts.length d] 29))
  have t0 := Lvar.new (w.alloc (Obj.cells #[Value.int IntKind.i64 N, Value.slice A xs.length c] 26)) #[Value.int IntKind.i64 tz, Value.slice T ts.length d] 29
  simp only [World.size_alloc] at t0
  have T0 := Lib.hid t0
  have A0 := Lib.hid (hA.below bb)
  have R0 := Lib.hid (hT.below bb)
  have BB := Lib.hid bb
  have hs0' : w.heap.size + 2 ≤ ((w.alloc (Obj.cells #[Value.int IntKind.i64 N, Value.slice A xs.length c] 26)).alloc (Obj.cells #[Value.int IntKind.i64 tz, Value.slice T ts.length d] 29)).heap.size := by simp
  have HS0 := Lib.hid hs0'
  have HR := Lib.hid (show firstD N xs (tz, ts) = if SysS.sysV N xs = true then (negT N (tz, ts)).map fun g => rowsD xs.length (xs ++ [g]) else none from rfl)
  generalize firstD N xs (tz, ts) = R at *
  clear bb t0 hA hT hs0'
  go_enter Try.func37, Try.ntmps37
  go_upto_region 1 with fail
  generalize ((w.alloc (Obj.cells #[Value.int IntKind.i64 N, Value.slice A xs.length c] 26)).alloc (Obj.cells #[Value.int IntKind.i64 tz, Value.slice T ts.length d] 29)) = W0 at *
  have hs0 := HS0.out
  have VA := Lib.hid (SysI.valid N A c xs W0 A0.out hl)
  have v0 := V0.out.cell 0 (.int .i64 N) rfl
  have v1 := V0.out.cell 1 (.slice A xs.length c) rfl
  cases hv : SysS.sysV N xs with
  | false =>
    rw [hv] at VA
    go_wp2_with fail
    refine (Calls.mono VA.out) ?_
    rintro e w1 ⟨rfl, b1⟩
    have HB := Lib.hid (BB.out.trans (b1.mono BB.out.size))
    have HF := Lib.hid (show R = none from by rw [HR.out, hv]; rfl)
    clear b1 v0 v1
    go_wp2
    go_ret2
    rw [HF.out]
    exact gaveOL_none HB.out
  | true =>
    rw [hv] at VA
    go_wp2_with fail
    refine (Calls.mono VA.out) ?_
    rintro e w1 ⟨rfl, b1⟩
    have hcn : cntB N = true := by
      unfold SysS.sysV at hv
      simp only [Bool.and_eq_true] at hv
      exact hv.2.1
    have hxl : xs.length ≤ 20 := by
      unfold SysS.sysV at hv
      simp only [Bool.and_eq_true, decide_eq_true_eq] at hv
      exact hv.2.2
    have HR2 := Lib.hid (show R = (negT N (tz, ts)).map fun g => rowsD xs.length (xs ++ [g]) from by rw [HR.out, hv]; rfl)
    have hn := cntB_iff.1 hcn
    obtain ⟨n, rfl⟩ := Int.eq_ofNat_of_zero_le hn.1
    have hn8 : n ≤ 8 := by omega
    have V1 := Lib.hid (V0.out.below b1)
    have T1 := Lib.hid (T0.out.below b1)
    have R1 := Lib.hid (R0.out.below b1)
    have A1 := Lib.hid (A0.out.below b1)
    have B1 := Lib.hid (BB.out.trans (b1.mono BB.out.size))
    have hs1 := b1.size
    clear b1 v0 v1 V0 T0 R0 A0 BB HR VA hcn hv hn
    have CO := Lib.hid (fun W => constC (-1) n W)
    have hs0' := constL_small (-1) (n : Int)
    have HNEG := Lib.hid (show negT (n : Int) (tz, ts) = addS (constL (-1) (n : Int)).1 (constL (-1) (n : Int)).2 (-1) tz ts from rfl)
    generalize constL (-1) (n : Int) = s0 at *
    have AS := Lib.hid (fun C0 c0 lo2 hi2 W (h1 : Below w1.heap.size w1 W) (h2 : Row lo2 hi2 W C0 (IntK.iv s0.2)) => addScaledC lo2 hi2 lo hi s0.1 (-1) tz C0 T c0 d s0.2 ts W h2 (R1.out.below h1) (by omega) hlt)
    generalize hr : addS s0.1 s0.2 (-1) tz ts = r at *
    clear hr
    have KS := Lib.hid (fun W (h : Below w1.heap.size w1 W) => (show W.cell? ⟨w.heap.size, 0, none⟩ = some (Value.int .i64 n) ∧ W.cell? ⟨w.heap.size + 1, 0, none⟩ = some (Value.int .i64 tz) ∧ W.cell? ⟨w.heap.size + 1, 1, none⟩ = some (Value.slice T ts.length d) from ⟨(V1.out.below h).cell 0 _ rfl, (T1.out.below h).cell 0 _ rfl, (T1.out.below h).cell 1 _ rfl⟩))
    obtain ⟨k0, k1, k2⟩ := KS.out w1 (Below.refl _ _)
    have lv1 := V1.out.lt
    have lt1 := T1.out.lt
    go_upto_region 3 with fail
    go_cut [6, 7] (fun s t wx => AfterO w1 r s t wx)
    case first =>
      go_region_held3 (fun w' => w'.cell? ⟨w.heap.size, 0, none⟩ = some (Value.int .i64 n) ∧ w'.cell? ⟨w.heap.size + 1, 0, none⟩ = some (Value.int .i64 tz) ∧ w'.cell? ⟨w.heap.size + 1, 1, none⟩ = some (Value.slice T ts.length d))
        (first | with_reducible exact KS.out _ hd5 | with_reducible exact KS.out _ hd4 | with_reducible exact KS.out _ (Below.refl _ _).drew | with_reducible exact KS.out _ (hd5.alloc hd5.size _) | with_reducible exact KS.out _ (hd4.alloc hd4.size _) | with_reducible exact KS.out _ ((Below.refl _ _).alloc (Nat.le_refl _) _).drew | with_reducible exact KS.out _ ((hd5.setCell (by first | (simp; done) | (exact hd4.size)) _).setCell (by first | (simp; done) | (exact hd4.size)) _))
        (first
          | (go_at_call 52; refine (Calls.mono (CO.out _)) ?_; rintro e u4 ⟨C2, g2, rfl, rc2, fc2, b4, hg2⟩; (have hd4 : Below w1.heap.size w1 u4 := by first | exact ((Below.refl w1.heap.size w1).drew).trans (b4.mono ((Below.refl w1.heap.size w1).drew).size) | exact (((Below.refl w1.heap.size w1).alloc (Nat.le_refl _) _).drew).trans (b4.mono (((Below.refl w1.heap.size w1).alloc (Nat.le_refl _) _).drew).size)); (try (have v4 : Lvar u4 w1.heap.size #[Value.int .i64 0, Value.slice none 0 0] := ((Lvar.new w1 _ _).below (Below.refl _ _).drew).below b4)))
          | (go_at_call 73; refine (Calls.mono (AS.out C2 g2 _ _ _ (by first | exact hd4 | exact hd4.alloc hd4.size _) (rc2.below (by first | exact Below.refl _ _ | exact (Below.refl _ _).alloc (Nat.le_refl _) _)))) ?_; rintro e u5 ⟨Aw, cw, rfl, rw5, fw5, b5, hcw⟩; (have hs5' : Below u4.heap.size u4 u5 := by first | exact b5 | exact ((Below.refl _ _).alloc (Nat.le_refl _) _).trans (b5.mono (by simp))); (have hd5 := hd4.trans (hs5'.mono hd4.size)); (try (have v5 := v4.below hs5')); (try (have v5 : Lvar u5 u4.heap.size #[Value.int .i64 0, Value.slice none 0 0] := (Lvar.new u4 _ _).below b5)); (try (have z0 := v5.cell 0 (Value.int .i64 0) rfl)); (try (have z1 := v5.cell 1 (Value.slice none 0 0) rfl)); (try (have y0 := v5.frozen 0)); (try (have y1 := v5.frozen 1))))
      all_goals (go_wp2_with fail)
      all_goals go_meet
      all_goals first | exact afterO_new hd5 rw5 (by first | exact hd4.size | (have := hd4.size; simp; omega)) hcw | exact afterO_old hd5 v5 rw5 (by first | exact hd4.size | exact Nat.le_refl _) (by first | exact v4.lt | (simp; done) | (simp; omega)) hcw
    case rest =>
      obtain ⟨w6, rfl⟩ : ∃ w6 : World, w6 = wc := ⟨_, rfl⟩
      obtain ⟨bg, Ag, cg, rfl, e7, hbg, Vg, Og, hcg, d6⟩ := hcut
      have V6 := Lib.hid (V1.out.below d6)
      have A6 := Lib.hid (A1.out.below d6)
      have B6 := Lib.hid (B1.out.trans (d6.mono B1.out.size))
      have VG := Lib.hid Vg
      have OG := Lib.hid Og
      clear k0 k1 k2 KS AS CO V1 T1 R1 A1 B1 d6 Vg Og
      generalize hq1 : r.isSome = q1 at *
      cases r with
      | none =>
        have e7 := (show false = q1 from hq1)
        subst e7
        have HF := Lib.hid (show R = none from by rw [HR2.out, HNEG.out]; rfl)
        subst_vars
        go_wp2
        go_ret2
        rw [HF.out]
        exact gaveOL_none B6.out
      | some t0 =>
        have hq1 := (show true = q1 from hq1)
        subst hq1
        have VG := Lib.hid (show Lvar w6 bg #[.int .i64 t0.1, .slice Ag t0.2.length cg] from VG.out)
        have OG := Lib.hid (show Row w1.heap.size w6.heap.size w6 Ag (IntK.iv t0.2) from OG.out)
        have hcg' : t0.2.length ≤ cg := hcg
        have HF := Lib.hid (show R = some (rowsD xs.length (xs ++ [t0])) from by rw [HR2.out, HNEG.out]; rfl)
        clear HR2 HNEG hcg
        have v1 := V6.out.cell 1 (.slice A xs.length c) rfl
        have g0 := VG.out.cell 0 (.int .i64 t0.1) rfl
        have g1 := VG.out.cell 1 (.slice Ag t0.2.length cg) rfl
        have hbgl := VG.out.lt
        have hwl := V6.out.lt
        have ta : Below w6.heap.size w6 (w6.alloc (Obj.cells #[Value.int IntKind.i64 t0.1, Value.slice Ag t0.2.length cg] 29)) := (Below.refl _ _).alloc (Nat.le_refl _) _
        have tb : Below w6.heap.size w6 ((w6.alloc (Obj.cells #[Value.int IntKind.i64 t0.1, Value.slice Ag t0.2.length cg] 29)).alloc (Obj.cells #[Value.slice A xs.length c, Value.slice (some ⟨w6.heap.size, 0, none⟩) 1 1] 24)) := ta.alloc (by simp) _
        have VB := (Lvar.new w6 #[Value.int IntKind.i64 t0.1, Value.slice Ag t0.2.length cg] 29).alloc (Obj.cells #[Value.slice A xs.length c, Value.slice (some ⟨w6.heap.size, 0, none⟩) 1 1] 24)
        have VP := Lvar.new (w6.alloc (Obj.cells #[Value.int IntKind.i64 t0.1, Value.slice Ag t0.2.length cg] 29)) #[Value.slice A xs.length c, Value.slice (some ⟨w6.heap.size, 0, none⟩) 1 1] 24
        simp only [World.size_alloc] at VP
        obtain ⟨fl, hfl, _, _⟩ := lin_close (q := false) (z := t0.1) (OG.out.below tb) (fun h => by cases h) hcg'
        have HB1 := lins_of1 VB hfl
        obtain ⟨qa, fa, hA6⟩ := A6.out.below tb
        have CAT := Lib.hid (concat2 (w6.heap.size + 1) 0 2 A (some ⟨w6.heap.size, 0, none⟩) c 1 xs [t0] qa false fa _ _ hA6 HB1 (VP.cell 0 _ rfl) (VP.cell 1 _ rfl) (by simp) (by simp; omega))
        have B8 := Lib.hid (B6.out.trans (tb.mono B6.out.size))
        clear ta tb VB VP hfl HB1 hA6
        go_wp2_with fail
        refine (Calls.mono CAT.out) ?_
        rintro e w9 ⟨v9, rfl, l9, b9⟩
        have B9 := Lib.hid (B8.out.trans (b9.mono B8.out.size))
        obtain ⟨ys, hys⟩ : ∃ ys : List (Int × List Int), xs ++ [t0] = ys := ⟨_, rfl⟩
        have hyl : ys.length = xs.length + 1 := by rw [← hys]; simp
        rw [hys] at l9 HF
        obtain ⟨G, g9, f9, rfl, hG⟩ := Listed.rep l9 (by decide)
        have HG := Lib.hid hG
        have HYL := Lib.hid hyl
        have hy21 : ys.length ≤ 21 := by omega
        have hmkD := run_mkD ys.length (by omega)
        have START := Lib.hid (fstRel_start w9 ys.length (rowsD xs.length ys) (by omega))
        clear l9 hG b9 hys v1 g0 g1 CAT V6 A6 VG OG B6 B8 hyl
        go_wp2
        go_loopw [10, 11, 36] (fun _ _ s wr => FstRel w9 ys.length (rowsD xs.length ys) s wr) (fun _ _ s _ => ys.length - (intOf s).toNat)
        case atStart => exact START.out
        case round =>
          obtain ⟨k, es, hk, rfl, hel, hes, hown, he, hd, hb⟩ := hrel
          have KO := Lib.hid hown
          have KE := Lib.hid he
          have KD := Lib.hid hd
          have KB := Lib.hid hb
          have KL := Lib.hid hel
          have KV := Lib.hid hes
          have h9r := (hown.lt w9.heap.size rfl).2
          clear hown he hd hb hel hes START
          by_cases hlk : k < ys.length
          · have HT := Lib.hid (rows_take (m := xs.length) hlk)
            obtain ⟨b, o, f, B, d1, rfl, hbl, x0, x1, hrep⟩ := lins_at_rep HG.out hlk
            have x0 := (KB.out.cell (p := ⟨b, o + k * 2, none⟩) hbl).trans x0
            have x1 := (KB.out.cell (p := ⟨b, o + k * 2 + 1, none⟩) hbl).trans x1
            have hi0' : (0 : Int) ≤ (k : Int) := by omega
            have hi1' : (k : Int) < (ys.length : Int) := by omega
            generalize ys[k] = x at *
            obtain ⟨z, zs⟩ := x
            simp only at x0 x1 hrep
            have HREP := Lib.hid hrep
            have ta : Below wr.heap.size wr (wr.alloc (Obj.cells #[Value.int IntKind.i64 z, Value.slice B zs.length d1] 29)) := (Below.refl _ _).alloc (Nat.le_refl _) _
            have VL := Lib.hid (Lvar.new wr #[Value.int IntKind.i64 z, Value.slice B zs.length d1] 29)
            have TA := Lib.hid ta
            have hsl : (wr.alloc (Obj.cells #[Value.int IntKind.i64 z, Value.slice B zs.length d1] 29)).heap.size = wr.heap.size + 1 := by simp
            have HSL := Lib.hid hsl
            clear hrep ta hsl
            go_upto_region 11 with fail
            clear x0 x1
            generalize wr.alloc (Obj.cells #[Value.int IntKind.i64 z, Value.slice B zs.length d1] 29) = wl at *
            have hsl : wr.heap.size + 1 ≤ wl.heap.size := by have := HSL.out; omega
            have hlt9 : w9.heap.size < wl.heap.size := by omega
            have hltr : wr.heap.size < wl.heap.size := by omega
            obtain ⟨hm1, hm2⟩ := made wl ys.length (by omega)
            have tm : Below wl.heap.size wl (wl.alloc (.cells (madeCells #[.int .i64 0] ys.length) 3)).drew := ((Below.refl _ _).alloc (Nat.le_refl _) _).drew
            have b1 := TA.out.trans (tm.mono (by omega))
            have ow := own_mod KO.out b1
            have owl := own_mod KO.out TA.out
            have hcell : ∀ t, t < 3 → ∃ v, wl.cell? ⟨w9.heap.size, k * 3 + t, none⟩ = some v := fun t ht => by
              have hz3 : ∀ x ∈ es ++ List.replicate (ys.length - k) zeroDR, x.2.1.length = 3 := fun x hx => by
                rcases List.mem_append.1 hx with h | h
                · exact dr.len (KE.out x h)
                · rw [(List.mem_replicate.1 h).2]; rfl
              have hll : (es ++ List.replicate (ys.length - k) zeroDR).length = ys.length := by rw [List.length_append, List.length_replicate, KL.out]; omega
              have hc := cells_len (n := 3) hz3
              rw [owl.cellAt (k * 3 + t) (by omega)]
              exact ⟨_, List.getElem?_eq_getElem (by rw [hc, hll]; omega)⟩
            obtain ⟨u0, c0⟩ := hcell 0 (by decide)
            obtain ⟨u1, c1⟩ := hcell 1 (by decide)
            obtain ⟨u2, c2⟩ := hcell 2 (by decide)
            rw [Nat.add_zero] at c0
            have f0 := owl.frozenAt (k * 3)
            have f1 := owl.frozenAt (k * 3 + 1)
            have f2 := owl.frozenAt (k * 3 + 2)
            have l0 := VL.out.cell 0 (.int .i64 z) rfl
            have l1 := VL.out.cell 1 (.slice B zs.length d1) rfl
            have hmk := IntK.run_mk ys.length (by omega)
            have hne1 : w9.heap.size ≠ wr.heap.size := by omega
            have hne2 : w9.heap.size ≠ wl.heap.size := by omega
            have hne3 : wr.heap.size ≠ wl.heap.size := by omega
            have KS := Lib.hid (fun W (h : Below wl.heap.size wl W) => (show W.cell? ⟨wr.heap.size, 0, none⟩ = some (Value.int .i64 z) ∧ W.cell? ⟨wr.heap.size, 1, none⟩ = some (Value.slice B zs.length d1) from ⟨(VL.out.below h).cell 0 _ rfl, (VL.out.below h).cell 1 _ rfl⟩))
            have KS2 := Lib.hid (fun W (h : Mod w9.heap.size (w9.heap.size + 1) (wl.alloc (.cells (madeCells #[.int .i64 0] ys.length) 3)).drew W) => (show W.cell? ⟨wr.heap.size, 0, none⟩ = some (Value.int .i64 z) ∧ W.cell? ⟨wr.heap.size, 1, none⟩ = some (Value.slice B zs.length d1) from ⟨((VL.out.below tm).keep h (Or.inr (by omega))).cell 0 _ rfl, ((VL.out.below tm).keep h (Or.inr (by omega))).cell 1 _ rfl⟩))
            have SN := Lib.hid (fst_snoc (L := rowsD xs.length ys) (m := xs.length) (bm := wl.heap.size) (n := ys.length) HYL.out hlk KL.out KV.out HT.out KB.out b1 (by omega) (by simp) h9r KO.out KE.out KD.out (hm1.below (Below.refl _ _).drew |>.wider (Nat.le_refl _) (by simp) (by simp)) HREP.out)
            have mm3 : Mod w9.heap.size (w9.heap.size + 1) (wl.alloc (.cells (madeCells #[.int .i64 0] ys.length) 3)).drew ((((wl.alloc (.cells (madeCells #[.int .i64 0] ys.length) 3)).drew.setCell ⟨w9.heap.size, k * 3, none⟩ (.int .i64 z)).setCell ⟨w9.heap.size, k * 3 + 1, none⟩ (.slice B zs.length d1)).setCell ⟨w9.heap.size, k * 3 + 2, none⟩ (.slice (some ⟨wl.heap.size, 0, none⟩) ys.length ys.length)) :=
              ((Mod.set _ (p := ⟨w9.heap.size, k * 3, none⟩) (Nat.le_refl _) (Nat.lt_succ_self _) _).trans (Mod.set _ (p := ⟨w9.heap.size, k * 3 + 1, none⟩) (Nat.le_refl _) (Nat.lt_succ_self _) _)).trans (Mod.set _ (p := ⟨w9.heap.size, k * 3 + 2, none⟩) (Nat.le_refl _) (Nat.lt_succ_self _) _)
            have hz3 : ∀ x ∈ es ++ List.replicate (ys.length - k) zeroDR, x.2.1.length = 3 := fun x hx => by
              rcases List.mem_append.1 hx with h | h
              · exact dr.len (KE.out x h)
              · rw [(List.mem_replicate.1 h).2]; rfl
            have hll : (es ++ List.replicate (ys.length - k) zeroDR).length = ys.length := by rw [List.length_append, List.length_replicate, KL.out]; omega
            have hcl := cells_len (n := 3) hz3
            have q2 : ((((wl.alloc (.cells (madeCells #[.int .i64 0] ys.length) 3)).drew.setCell ⟨w9.heap.size, k * 3, none⟩ (.int .i64 z)).setCell ⟨w9.heap.size, k * 3 + 1, none⟩ (.slice B zs.length d1)).setCell ⟨w9.heap.size, k * 3 + 2, none⟩ (.slice (some ⟨wl.heap.size, 0, none⟩) ys.length ys.length)).cell? ⟨w9.heap.size, k * 3 + 2, none⟩ = some (.slice (some ⟨wl.heap.size, 0, none⟩) ys.length ys.length) := by
              have ow3 := (((ow.stored (k * 3) (.int .i64 z)).1.stored (k * 3 + 1) (.slice B zs.length d1)).1.stored (k * 3 + 2) (.slice (some ⟨wl.heap.size, 0, none⟩) ys.length ys.length)).1
              rw [ow3.cellAt (k * 3 + 2) (by omega), List.getElem?_set_self (by simp only [List.length_set]; rw [hcl, hll]; omega)]
            have hrd : Row wl.heap.size (wl.heap.size + 1) (wl.alloc (.cells (madeCells #[.int .i64 0] ys.length) 3)).drew (some ⟨wl.heap.size, 0, none⟩) (IntK.iv (List.replicate ys.length 0)) := (hm1.below (Below.refl _ _).drew).wider (Nat.le_refl _) (by simp) (by simp)
            have hrk := hrd.keep mm3 (Or.inr (by omega))
            obtain ⟨bq, oq, eq, _, q3⟩ := IntK.at_ hrk (k := k) (by simpa using hlk)
            injection eq with eq
            injection eq with e1 e2
            subst e1
            subst e2
            rw [Nat.zero_add] at q3
            have hfk := (hm2.below hm1 (by rw [IntK.iv_len, List.length_replicate]; exact Nat.le_refl _) (Below.refl _ _).drew).keep hrd (by rw [IntK.iv_len, List.length_replicate]; exact Nat.le_refl _) mm3 (Or.inr (by omega))
            have q4 := hfk (by omega) _ _ rfl k hlk
            rw [Nat.zero_add] at q4
            have hEq : ((((wl.alloc (.cells (madeCells #[.int .i64 0] ys.length) 3)).drew.setCell ⟨w9.heap.size, k * 3, none⟩ (.int .i64 z)).setCell ⟨w9.heap.size, k * 3 + 1, none⟩ (.slice B zs.length d1)).setCell ⟨w9.heap.size, k * 3 + 2, none⟩ (.slice (some ⟨wl.heap.size, 0, none⟩) ys.length ys.length)) = ((((wl.setCell ⟨w9.heap.size, k * 3, none⟩ (.int .i64 z)).setCell ⟨w9.heap.size, k * 3 + 1, none⟩ (.slice B zs.length d1)).setCell ⟨w9.heap.size, k * 3 + 2, none⟩ (.slice (some ⟨wl.heap.size, 0, none⟩) ys.length ys.length)).alloc (.cells (madeCells #[.int .i64 0] ys.length) 3)).drew := by
              show ((((wl.alloc (.cells (madeCells #[.int .i64 0] ys.length) 3)).setCell ⟨w9.heap.size, k * 3, none⟩ (.int .i64 z)).setCell ⟨w9.heap.size, k * 3 + 1, none⟩ (.slice B zs.length d1)).setCell ⟨w9.heap.size, k * 3 + 2, none⟩ (.slice (some ⟨wl.heap.size, 0, none⟩) ys.length ys.length)).drew = _
              rw [World.setCell_alloc_past _ _ _ _ (by omega), World.setCell_alloc_past _ _ _ _ (by simp; omega), World.setCell_alloc_past _ _ _ _ (by simp; omega)]
            have SN2 := Lib.hid (show FstRel w9 ys.length (rowsD xs.length ys) (Value.int IntKind.i64 ((k : Int) + 1)) ((((((wl.setCell ⟨w9.heap.size, k * 3, none⟩ (.int .i64 z)).setCell ⟨w9.heap.size, k * 3 + 1, none⟩ (.slice B zs.length d1)).setCell ⟨w9.heap.size, k * 3 + 2, none⟩ (.slice (some ⟨wl.heap.size, 0, none⟩) ys.length ys.length)).alloc (.cells (madeCells #[.int .i64 0] ys.length) 3)).drew).setCell ⟨wl.heap.size, k, none⟩ (.int .i64 1)) from hEq ▸ SN.out)
            rw [hEq] at mm3 q2 q3 q4
            have MM3 := Lib.hid mm3
            have Q := Lib.hid (And.intro q2 (And.intro q3 q4))
            clear hz3 hll hcl q2 hrd hrk q3 hfk q4 mm3 hcell hm1 hm2 ow owl b1
            go_region_held3 (fun w' => w'.cell? ⟨wr.heap.size, 0, none⟩ = some (Value.int .i64 z) ∧ w'.cell? ⟨wr.heap.size, 1, none⟩ = some (Value.slice B zs.length d1))
              (first | with_reducible exact KS.out _ (Below.refl _ _).drew | with_reducible exact KS.out _ tm | with_reducible exact KS2.out _ MM3.out | exact KS2.out _ MM3.out | go_keep)
              (fail)
            obtain ⟨q2, q3, q4⟩ := Q.out
            clear KS KS2 SN hEq Q MM3 c0 c1 c2 f0 f1 f2 l0 l1 tm
            generalize ((((wl.setCell ⟨w9.heap.size, k * 3, none⟩ (.int .i64 z)).setCell ⟨w9.heap.size, k * 3 + 1, none⟩ (.slice B zs.length d1)).setCell ⟨w9.heap.size, k * 3 + 2, none⟩ (.slice (some ⟨wl.heap.size, 0, none⟩) ys.length ys.length)).alloc (.cells (madeCells #[.int .i64 0] ys.length) 3)).drew = w12 at *
            go_wp2
            go_roundw
            case rel => exact SN2.out
            case measure => simp [intOf]; omega
          · obtain rfl : k = ys.length := by omega
            have hlz : decide ((ys.length : Int) < (ys.length : Int)) = false := by simp
            have hall : vals es = rowsD xs.length ys := by
              have h := KV.out
              rw [List.take_of_length_le (by rw [rows_len]; exact Nat.le_refl _)] at h
              exact h
            have hLi : Listed dr 70 w9.heap.size wr (.slice (some ⟨w9.heap.size, 0, none⟩) ys.length ys.length) (rowsD xs.length ys) := by
              refine ⟨es, hall, ?_, KE.out, fun b hb e => KD.out b hb (Option.some.inj (show some w9.heap.size = some b from e)).symm⟩
              have h := KO.out
              rw [Nat.sub_self, List.replicate_zero, List.append_nil] at h
              rw [rows_len]
              exact h
            obtain ⟨G2, g2, f2, e2, hG2⟩ := listed_slice' hLi
            have HL2 := Lib.hid hG2
            have HE2 := Lib.hid e2
            have HB := Lib.hid (B9.out.trans (KB.out.mono B9.out.size))
            clear hLi hall hG2 e2 KO
            go_wp2
            go_ret2
            rw [HF.out]
            refine ⟨_, _, _, rfl, fun L hL => ?_, HB.out⟩
            injection hL with hL
            subst hL
            refine ⟨by rw [rows_len], f2, ?_⟩
            have h := HL2.out
            rw [← HE2.out] at h
            exact h
end ElimI
end Go.Proofs.Ytmkelfjnjnjgbaa
