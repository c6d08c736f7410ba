import Derived.Test.YtmkelfjnjnjgbaaElimOut
import Derived.Test.YtmkelfjnjnjgbaaElimFst
import Derived.Test.YtmkelfjnjnjgbaaFarkCheck2
/-
  The program's search for a certificate.
-/
namespace Go.Proofs.Ytmkelfjnjnjgbaa
open Go.RowKit
namespace ElimI
open RowK Mem ElimM ElimS ArithM LinM LinI FarkM

theorem found_at {α : Type} {p : α → Bool} {L : List α} {k : Nat} (hk : k < L.length) (h : ∀ r ∈ L.take k, p r = false) (h2 : p L[k] = true) : L.find? p = some L[k] := by
  rw [List.find?_eq_some_iff_getElem]
  refine ⟨h2, k, hk, rfl, fun j hj => ?_⟩
  have := h L[j] (by rw [List.mem_take_iff_getElem]; exact ⟨j, by omega, rfl⟩)
  simp [this]
theorem found_none {α : Type} {p : α → Bool} {L : List α} (h : ∀ r ∈ L, p r = false) : L.find? p = none := by
  rw [List.find?_eq_none]
  intro r hr
  simp [h r hr]
/-- The first that is negative. -/
theorem first_neg (L : List DR) : (idxD (fun r => decide (r.1.1 < 0)) L = -1 ∧ L.find? (fun r => decide (r.1.1 < 0)) = none) ∨ ∃ k, ∃ hk : k < L.length, idxD (fun r => decide (r.1.1 < 0)) L = (k : Int) ∧ L.find? (fun r => decide (r.1.1 < 0)) = some L[k] := by
  by_cases hall : ∀ r ∈ L, decide (r.1.1 < 0) = false
  · exact Or.inl ⟨idx_none hall, found_none hall⟩
  · right
    have hk0 : L.findIdx (fun r => decide (r.1.1 < 0)) < L.length := List.findIdx_lt_length_of_exists (by
      rcases Classical.not_forall.1 hall with ⟨r, hr⟩
      rcases Classical.not_imp.1 hr with ⟨h1, h2⟩
      exact ⟨r, h1, by simpa using h2⟩)
    have ht0 : decide (L[L.findIdx (fun r => decide (r.1.1 < 0))].1.1 < 0) = true := List.findIdx_getElem (p := fun r : DR => decide (r.1.1 < 0))
    have hpre0 : ∀ r ∈ L.take (L.findIdx (fun r => decide (r.1.1 < 0))), decide (r.1.1 < 0) = false := fun r hr => by
      rw [List.mem_take_iff_getElem] at hr
      obtain ⟨j, hj, rfl⟩ := hr
      have := List.not_of_lt_findIdx (p := fun r : DR => decide (r.1.1 < 0)) (xs := L) (i := j) (by omega)
      simpa using this
    exact ⟨_, hk0, idx_hit hk0 hpre0 ht0, found_at hk0 hpre0 ht0⟩
theorem predNeg (w : World) : PredD 40 #[] (fun r => decide (r.1.1 < 0)) (fun _ => True) 0 0 w := fun W r f A B a b hm hok hrep => by
  have h := isNegative r.1.1 A B r.1.2.length a r.2.length b W
  exact h
/-- What the first rows are. -/
theorem first_facts {N : Int} {xs : List (Int × List Int)} {t : Int × List Int} {L : List DR} (h : firstD N xs t = some L) : SysS.sysV N xs = true ∧ (∀ r ∈ L, okD N (xs.length + 1) r) ∧ L.length ≤ 60 := by
  unfold firstD at h
  split at h
  · rename_i hs
    obtain ⟨g, hg, rfl⟩ := Option.map_eq_some_iff.1 h
    have hc : cntB N = true := by
      have hs' := hs
      unfold SysS.sysV at hs'
      simp only [Bool.and_eq_true] at hs'
      exact hs'.2.1
    have hv := negT_vld hc hg
    refine ⟨hs, ?_, ?_⟩
    · rw [rows_snoc]; exact start_ok hs hv
    · rw [rows_snoc]; exact start_len hs
  · cases h
/-- The rounds so far. -/
def GotRel (w2 : World) (R : Option (Int × List Int)) (n : Nat) (L0 : List DR) (s6 s7 s8 : Value) (wr : World) : Prop :=
  Below w2.heap.size w2 wr ∧ ((s7 = .bool false ∧ R = none ∧ ∃ G m g, s6 = .slice G m g) ∨ (s7 = .bool true ∧ ∃ (i : Nat) (M : List DR) (G : Option Addr) (g : Nat) (fp : List Nat), i ≤ n ∧ s8 = .int .i64 i ∧ s6 = .slice G M.length g ∧ elimN L0 i = some M ∧ drs.rep false wr fp [.slice G M.length g] M))

set_option maxHeartbeats 8000000 in
set_option maxRecDepth 100000 in
theorem findFarkas (lo hi : Nat) (N : Int) (A T : Option Addr) (c d : Nat) (xs : List (Int × List Int)) (tz : Int) (ts : List Int) (w : World) (hA : SysK.Arg w A xs.length c xs) (hl : linsSize xs ≤ 1000000000) (hT : Row lo hi w T (IntK.iv ts)) (hlt : ts.length ≤ 1000000000) :
    Calls Try.prog 10 #[.agg #[.int .i64 N, .slice A xs.length c], .agg #[.int .i64 tz, .slice T ts.length d]] w (GaveO w (findF N xs (tz, ts))) := by
  have bb : Below w.heap.size w (((w.alloc (Obj.cells #[Value.int IntKind.i64 N, Value.slice A xs.length c] 26)).alloc (Obj.cells #[Value.int IntKind.i64 tz, Value.slice T ts.length d] 29)).alloc (Obj.cells #[Value.int IntKind.i64 0, Value.slice none 0 0] 33)) := (((Below.refl _ _).alloc (Nat.le_refl _) _).alloc (by simp) _).alloc (by simp; omega) _
  have V0 := Lib.hid (((Lvar.new w #[Value.int IntKind.i64 N, Value.slice A xs.length c] 26).alloc (Obj.cells #[Value.int IntKind.i64 tz, Value.slice T ts.length d] 29)).alloc (Obj.cells #[Value.int IntKind.i64 0, Value.slice none 0 0] 33))
  have t0 := (Lvar.new (w.alloc (Obj.cells #[Value.int IntKind.i64 N, Value.slice A xs.length c] 26)) #[Value.int IntKind.i64 tz, Value.slice T ts.length d] 29).alloc (Obj.cells #[Value.int IntKind.i64 0, Value.slice none 0 0] 33)
  have z0 := Lvar.new ((w.alloc (Obj.cells #[Value.int IntKind.i64 N, Value.slice A xs.length c] 26)).alloc (Obj.cells #[Value.int IntKind.i64 tz, Value.slice T ts.length d] 29)) #[Value.int IntKind.i64 0, Value.slice none 0 0] 33
  simp only [World.size_alloc] at t0 z0
  have T0 := Lib.hid t0
  have Z0 := Lib.hid z0
  have HS0 := Lib.hid (show w.heap.size + 3 ≤ (((w.alloc (Obj.cells #[Value.int IntKind.i64 N, Value.slice A xs.length c] 26)).alloc (Obj.cells #[Value.int IntKind.i64 tz, Value.slice T ts.length d] 29)).alloc (Obj.cells #[Value.int IntKind.i64 0, Value.slice none 0 0] 33)).heap.size by simp)
  have A0 := Lib.hid (hA.below bb)
  have R0 := Lib.hid (hT.below bb)
  have BB := Lib.hid bb
  have HR := Lib.hid (find_first N xs (tz, ts))
  have eg : ∀ args w, (callFunc 40 args).run Try.prog w = .ok (.enter 40 args) w := enters_of Try.func40 (by kernel_rfl) rfl
  generalize findF N xs (tz, ts) = R at *
  clear bb t0 z0 hA hT
  go_enter Try.func10, Try.ntmps10
  go_upto_region 1 with fail
  generalize (((w.alloc (Obj.cells #[Value.int IntKind.i64 N, Value.slice A xs.length c] 26)).alloc (Obj.cells #[Value.int IntKind.i64 tz, Value.slice T ts.length d] 29)).alloc (Obj.cells #[Value.int IntKind.i64 0, Value.slice none 0 0] 33)) = W0 at *
  have hs0 := HS0.out
  have FR := Lib.hid (firstRows lo hi N A T c d xs tz ts W0 A0.out hl R0.out hlt)
  have v0 := V0.out.cell 0 (.int .i64 N) rfl
  have v1 := V0.out.cell 1 (.slice A xs.length c) rfl
  have t0 := T0.out.cell 0 (.int .i64 tz) rfl
  have t1 := T0.out.cell 1 (.slice T ts.length d) rfl
  go_wp2_with fail
  refine (Calls.mono FR.out) ?_
  rintro e w2 ⟨G2, n2, g2, rfl, hL2, b2⟩
  have HL2 := Lib.hid hL2
  have V2 := Lib.hid (V0.out.below b2)
  have T2 := Lib.hid (T0.out.below b2)
  have Z2 := Lib.hid (Z0.out.below b2)
  have A2 := Lib.hid (A0.out.below b2)
  have R2 := Lib.hid (R0.out.below b2)
  have B2 := Lib.hid (BB.out.trans (b2.mono BB.out.size))
  have hs2 := b2.size
  clear hL2 b2 v0 v1 t0 t1 V0 T0 Z0 A0 R0 BB FR
  generalize hq1 : (firstD N xs (tz, ts)).isSome = q1 at *
  cases hfd : firstD N xs (tz, ts) with
  | none =>
    rw [hfd] at hq1
    have hq1 := (show false = q1 from hq1)
    subst hq1
    have HF := Lib.hid (show R = none from by rw [HR.out, hfd]; rfl)
    clear HL2 hfd HR
    go_wp2
    go_loopw [6, 7, 8] (fun s6 s7 s8 wr => s7 = .bool false ∧ Below w2.heap.size w2 wr) (fun _ _ _ _ => 0)
    case atStart => exact ⟨rfl, Below.refl _ _⟩
    case round =>
      obtain ⟨rfl, hb⟩ := hrel
      have Z3 := Lib.hid (Z2.out.below hb)
      have B3 := Lib.hid (B2.out.trans (hb.mono B2.out.size))
      have q0 := Z3.out.cell 0 (.int .i64 0) rfl
      have q1 := Z3.out.cell 1 (.slice none 0 0) rfl
      have p0 := Z3.out.frozen 0
      have p1 := Z3.out.frozen 1
      have HB := Lib.hid ((B3.out.setCell (p := ⟨w.heap.size + 1 + 1, 0, none⟩) (by simp; omega) (.int .i64 0)).setCell (p := ⟨w.heap.size + 1 + 1, 1, none⟩) (by simp; omega) (.slice none 0 0))
      clear hb
      go_wp2
      refine bodyPost_ret (v := .tuple #[.agg #[.int .i64 0, .slice none 0 0], .bool false]) (by simp [results, Try.results10, go_sem, q0, q1]) rfl ?_
      rw [HF.out]
      exact gaveO_none HB.out
  | some L0 =>
    rw [hfd] at hq1
    have hq1 := (show true = q1 from hq1)
    subst hq1
    obtain ⟨hv, hokL, hL60⟩ := first_facts hfd
    have hn : 0 ≤ N ∧ N ≤ 8 := by
      unfold SysS.sysV at hv
      simp only [Bool.and_eq_true] at hv
      exact cntB_iff.1 hv.2.1
    have hxl : xs.length ≤ 20 := by
      unfold SysS.sysV at hv
      simp only [Bool.and_eq_true, decide_eq_true_eq] at hv
      exact hv.2.2
    obtain ⟨n, rfl⟩ := Int.eq_ofNat_of_zero_le hn.1
    have hn8 : n ≤ 8 := by omega
    obtain ⟨rfl, fp2, hrep2⟩ := HL2.out L0 hfd
    have HR3 := Lib.hid (show R = (elimN L0 n).bind fun M => pickD n xs (tz, ts) M from by rw [HR.out, hfd, Option.bind_some, Int.toNat_natCast])
    have HOKL := Lib.hid hokL
    have START := Lib.hid (show GotRel w2 R n L0 (.slice G2 L0.length g2) (.bool true) (.int .i64 (0 : Nat)) w2 from ⟨Below.refl _ _, Or.inr ⟨rfl, 0, L0, G2, g2, fp2, Nat.zero_le _, rfl, rfl, rfl, hrep2⟩⟩)
    clear HL2 hfd HR hv hokL hrep2 hn
    go_wp2
    go_loopw [6, 7, 8] (fun s6 s7 s8 wr => GotRel w2 R n L0 s6 s7 s8 wr) (fun _ _ s8 _ => 10 - (intOf s8).toNat)
    case atStart => exact START.out
    case round =>
      obtain ⟨hb, ⟨rfl, hRn, G, m, g, rfl⟩ | ⟨rfl, i, M, G, g, fg, hin, rfl, rfl, hM, hrep⟩⟩ := hrel
      · have HF := Lib.hid hRn
        have Z3 := Lib.hid (Z2.out.below hb)
        have B3 := Lib.hid (B2.out.trans (hb.mono B2.out.size))
        have q0 := Z3.out.cell 0 (.int .i64 0) rfl
        have q1 := Z3.out.cell 1 (.slice none 0 0) rfl
        have p0 := Z3.out.frozen 0
        have p1 := Z3.out.frozen 1
        have HB := Lib.hid ((B3.out.setCell (p := ⟨w.heap.size + 1 + 1, 0, none⟩) (by simp; omega) (.int .i64 0)).setCell (p := ⟨w.heap.size + 1 + 1, 1, none⟩) (by simp; omega) (.slice none 0 0))
        clear hb START hRn
        go_wp2
        refine bodyPost_ret (v := .tuple #[.agg #[.int .i64 0, .slice none 0 0], .bool false]) (by simp [results, Try.results10, go_sem, q0, q1]) rfl ?_
        rw [HF.out]
        exact gaveO_none HB.out
      · have V3 := Lib.hid (V2.out.below hb)
        have T3 := Lib.hid (T2.out.below hb)
        have Z3 := Lib.hid (Z2.out.below hb)
        have A3 := Lib.hid (A2.out.below hb)
        have R3 := Lib.hid (R2.out.below hb)
        have B3 := Lib.hid (B2.out.trans (hb.mono B2.out.size))
        have B23 := Lib.hid hb
        have HM := Lib.hid hM
        have HREP := Lib.hid hrep
        have HOKM := Lib.hid (elimN_ok HOKL.out hM)
        have hM60 := elimN_len hL60 hM
        have v0 := V3.out.cell 0 (.int .i64 n) rfl
        have hs3 := hb.size
        clear hb START hM hrep
        by_cases hilt : i < n
        · have WO := Lib.hid (without false fg G g i M wr HOKM.out (by omega) (by omega) hM60 HREP.out)
          have HNX := Lib.hid (elimN_next HM.out)
          have hi0' : (0 : Int) ≤ (i : Int) := by omega
          have hi1' : (i : Int) < (n : Int) := by omega
          have hid' : decide ((i : Int) < (n : Int)) = true := decide_eq_true hi1'
          have hwi : IntKind.i64.wrap ((i : Int) + 1) = (i : Int) + 1 := IntWalk.i64_in _ (by omega)
          generalize elimD M i = M2 at *
          go_wp2_with fail
          refine (Calls.mono WO.out) ?_
          rintro e w4 ⟨G4, n4, g4, rfl, hr4, b4⟩
          have hn4 := Lib.hid (show GotRel w2 R n L0 (.slice G4 n4 g4) (.bool (decide (M2.length ≤ 60))) (.int .i64 ((i : Int) + 1)) w4 from by
            refine ⟨B23.out.trans (b4.mono hs3), ?_⟩
            by_cases h60 : M2.length ≤ 60
            · obtain ⟨e4, f4, h4⟩ := hr4 h60
              subst e4
              exact Or.inr ⟨by rw [decide_eq_true h60], i + 1, M2, G4, g4, f4, by omega, by go_num, rfl, by rw [HNX.out, if_pos h60], h4⟩
            · exact Or.inl ⟨by rw [decide_eq_false h60], by rw [HR3.out, elimN_mono (show i + 1 ≤ n by omega) (by rw [HNX.out, if_neg h60])]; rfl, _, _, _, rfl⟩)
          clear hr4 b4 v0 WO HNX
          go_wp2
          go_roundw
          case rel => exact hn4.out
          case measure => simp [intOf]; omega
        · obtain rfl : i = n := by omega
          have hid' : decide ((i : Int) < (i : Int)) = false := by simp
          have HR4 := Lib.hid (show R = pickD i xs (tz, ts) M from by rw [HR3.out, HM.out]; rfl)
          have IX := Lib.hid (indexFunc 40 #[] eg (fun r => decide (r.1.1 < 0)) (fun _ => True) false fg G g M wr (predNeg wr) (fun _ _ => trivial) HREP.out (by omega))
          clear HR3 V2 T2 Z2 A2 R2 B2 HM
          rcases first_neg M with ⟨hix, hfn⟩ | ⟨k, hk, hix, hfn⟩
          · rw [hix] at IX
            have HF := Lib.hid (show R = none from by rw [HR4.out]; unfold pickD; rw [hfn]; rfl)
            clear hix hfn
            go_wp2_with fail
            refine (Calls.mono IX.out) ?_
            rintro e w4 ⟨rfl, b4⟩
            have Z4 := Lib.hid (Z3.out.below b4)
            have B4 := Lib.hid (B3.out.trans (b4.mono B3.out.size))
            have q0 := Z4.out.cell 0 (.int .i64 0) rfl
            have q1 := Z4.out.cell 1 (.slice none 0 0) rfl
            have p0 := Z4.out.frozen 0
            have p1 := Z4.out.frozen 1
            have HB := Lib.hid ((B4.out.setCell (p := ⟨w.heap.size + 1 + 1, 0, none⟩) (by simp; omega) (.int .i64 0)).setCell (p := ⟨w.heap.size + 1 + 1, 1, none⟩) (by simp; omega) (.slice none 0 0))
            clear b4 v0
            go_wp2
            refine bodyPost_ret (v := .tuple #[.agg #[.int .i64 0, .slice none 0 0], .bool false]) (by simp [results, Try.results10, go_sem, q0, q1]) rfl ?_
            rw [HF.out]
            exact gaveO_none HB.out
          · rw [hix] at IX
            have hokm := HOKM.out _ (List.getElem_mem hk)
            have HR5 := Lib.hid (show R = if checkF i xs (tz, ts) (M[k].2.getD xs.length 0) (M[k].2.take xs.length) = true then some (M[k].2.getD xs.length 0, M[k].2.take xs.length) else none from by rw [HR4.out]; unfold pickD; rw [hfn]; rfl)
            have hneg : decide ((k : Int) < 0) = false := decide_eq_false (by omega)
            clear hix hfn
            go_wp2_with fail
            refine (Calls.mono IX.out) ?_
            rintro e w4 ⟨rfl, b4⟩
            have V4 := Lib.hid (V3.out.below b4)
            have T4 := Lib.hid (T3.out.below b4)
            have Z4 := Lib.hid (Z3.out.below b4)
            have A4 := Lib.hid (A3.out.below b4)
            have R4 := Lib.hid (R3.out.below b4)
            have B4 := Lib.hid (B3.out.trans (b4.mono B3.out.size))
            have hs4 := b4.size
            obtain ⟨bm, om, fm, Bm, dm, Cm, em, lom, him, lom', him', rfl, hblm, c0, c1, c2, hdm, hem, r1m, r2m, hrepm, hfm⟩ := drs_at (Rep.below HREP.out b4) hk
            generalize M[k] = x at *
            have hi0' : (0 : Int) ≤ (k : Int) := by omega
            have hi1' : (k : Int) < (M.length : Int) := by omega
            have CE := Lib.hid (certificate lom' him' x.1.1 Bm Cm x.1.2.length dm em xs.length x.2 w4 r2m hokm.2 (by have := hokm.2; omega) hem)
            obtain ⟨sc, hsc⟩ : ∃ sc : Int, x.2.getD xs.length 0 = sc := ⟨_, rfl⟩
            obtain ⟨ms, hms⟩ : ∃ ms : List Int, x.2.take xs.length = ms := ⟨_, rfl⟩
            have hml : ms.length ≤ 1000 := by rw [← hms, List.length_take]; omega
            rw [hsc, hms] at CE HR5
            clear b4 v0 r1m r2m hrepm hfm hdm hem V3 T3 Z3 A3 R3 B3 IX hsc hms hokm
            go_wp2_with fail
            refine (Calls.mono CE.out) ?_
            rintro e w5 ⟨A5, c5, rfl, r5, f5, b5⟩
            have ta : Below w5.heap.size w5 (w5.alloc (Obj.cells #[Value.int IntKind.i64 sc, Value.slice A5 ms.length c5] 33)) := (Below.refl _ _).alloc (Nat.le_refl _) _
            have b6 := b5.trans (ta.mono b5.size)
            have V6 := Lib.hid (V4.out.below b6)
            have T6 := Lib.hid (T4.out.below b6)
            have Z6 := Lib.hid (Z4.out.below b6)
            have A6 := Lib.hid (A4.out.below b6)
            have R6 := Lib.hid (R4.out.below b6)
            have B6 := Lib.hid (B4.out.trans (b6.mono B4.out.size))
            have F6 := Lib.hid (Lvar.new w5 #[Value.int IntKind.i64 sc, Value.slice A5 ms.length c5] 33)
            have O6 := Lib.hid (show IntK.Own w4.heap.size w5.heap.size _ A5 ms from (show IntK.Own w4.heap.size w5.heap.size w5 A5 ms from ⟨r5, f5⟩).below ta)
            have HS6 := Lib.hid b6.size
            have HS56 := Lib.hid ta.size
            clear r5 f5 b5 ta b6 c0 c1 c2 CE V4 T4 Z4 A4 R4 B4
            go_upto_region 12 with fail
            generalize w5.alloc (Obj.cells #[Value.int IntKind.i64 sc, Value.slice A5 ms.length c5] 33) = w6 at *
            have v0 := V6.out.cell 0 (.int .i64 i) rfl
            have v1 := V6.out.cell 1 (.slice A xs.length c) rfl
            have t0 := T6.out.cell 0 (.int .i64 tz) rfl
            have t1 := T6.out.cell 1 (.slice T ts.length d) rfl
            have f0 := F6.out.cell 0 (.int .i64 sc) rfl
            have f1 := F6.out.cell 1 (.slice A5 ms.length c5) rfl
            have CK := Lib.hid (FarkI.checkFarkas w4.heap.size w5.heap.size lo hi i A A5 T c c5 d xs ms tz ts sc w6 A6.out hl O6.out.1 (by omega) R6.out hlt)
            have hs6 := HS6.out
            have hs56 := HS56.out
            cases hck : checkF i xs (tz, ts) sc ms with
            | false =>
              rw [hck] at CK
              have HF := Lib.hid (show R = none from by rw [HR5.out, hck]; rfl)
              go_wp2_with fail
              refine (Calls.mono CK.out) ?_
              rintro e w7 ⟨rfl, b7⟩
              have Z7 := Lib.hid (Z6.out.below b7)
              have B7 := Lib.hid (B6.out.trans (b7.mono B6.out.size))
              have q0 := Z7.out.cell 0 (.int .i64 0) rfl
              have q1 := Z7.out.cell 1 (.slice none 0 0) rfl
              have p0 := Z7.out.frozen 0
              have p1 := Z7.out.frozen 1
              have HB := Lib.hid ((B7.out.setCell (p := ⟨w.heap.size + 1 + 1, 0, none⟩) (by simp; omega) (.int .i64 0)).setCell (p := ⟨w.heap.size + 1 + 1, 1, none⟩) (by simp; omega) (.slice none 0 0))
              clear b7 v0 v1 t0 t1 f0 f1
              go_wp2
              refine bodyPost_ret (v := .tuple #[.agg #[.int .i64 0, .slice none 0 0], .bool false]) (by simp [results, Try.results10, go_sem, q0, q1]) rfl ?_
              rw [HF.out]
              exact gaveO_none HB.out
            | true =>
              rw [hck] at CK
              have HF := Lib.hid (show R = some (sc, ms) from by rw [HR5.out, hck]; rfl)
              go_wp2_with fail
              refine (Calls.mono CK.out) ?_
              rintro e w7 ⟨rfl, b7⟩
              have Z7 := Lib.hid (Z6.out.below b7)
              have F7 := F6.out.below b7
              have O7 := O6.out.below b7
              have B7 := Lib.hid (B6.out.trans (b7.mono B6.out.size))
              have hs7 := b7.size
              have f0 := F7.cell 0 (.int .i64 sc) rfl
              have f1 := F7.cell 1 (.slice A5 ms.length c5) rfl
              have q0 := Z7.out.cell 0 (.int .i64 0) rfl
              have q1 := Z7.out.cell 1 (.slice none 0 0) rfl
              have p0 := Z7.out.frozen 0
              have p1 := Z7.out.frozen 1
              have mm : Mod (w.heap.size + 1 + 1) (w.heap.size + 1 + 1 + 1) w7 ((w7.setCell ⟨w.heap.size + 1 + 1, 0, none⟩ (.int .i64 sc)).setCell ⟨w.heap.size + 1 + 1, 1, none⟩ (.slice A5 ms.length c5)) := (Mod.set _ (p := ⟨w.heap.size + 1 + 1, 0, none⟩) (Nat.le_refl _) (Nat.lt_succ_self _) _).trans (Mod.set _ (p := ⟨w.heap.size + 1 + 1, 1, none⟩) (Nat.le_refl _) (Nat.lt_succ_self _) _)
              have O8 := O7.keep mm (Or.inr (by omega))
              have hfin : GaveO w R (.returned (.tuple #[.agg #[.int .i64 sc, .slice A5 ms.length c5], .bool true])) ((w7.setCell ⟨w.heap.size + 1 + 1, 0, none⟩ (.int .i64 sc)).setCell ⟨w.heap.size + 1 + 1, 1, none⟩ (.slice A5 ms.length c5)) := by
                rw [HF.out]
                exact ⟨A5, c5, rfl, O8.1.wider (by omega) (Nat.le_trans (by omega) mm.size) (Nat.le_refl _), O8.2, below_mod B7.out mm (by omega) B7.out.size⟩
              have HFIN := Lib.hid hfin
              clear hfin mm O8 O7 F7 b7 v0 v1 t0 t1
              go_wp2
              refine bodyPost_ret (v := .tuple #[.agg #[.int .i64 sc, .slice A5 ms.length c5], .bool true]) (by simp [results, Try.results10, go_sem, q0, q1]) rfl HFIN.out
end ElimI
end Go.Proofs.Ytmkelfjnjnjgbaa
