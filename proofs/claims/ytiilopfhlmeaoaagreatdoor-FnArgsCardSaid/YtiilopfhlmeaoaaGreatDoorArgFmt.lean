import Derived.Test.YtiilopfhlmeaoaaGreatDoorArgImpl
import Derived.Test.YtiilopfhlmeaoaaGreatDoorTextFmt
import Derived.Test.YtiilopfhlmeaoaaGreatDoorLinImpl
import Derived.Test.YtiilopfhlmeaoaaGreatDoorStrMore
import Derived.Deep.RegionLaw
/-
  impl.FormatSum: it returns the representation of a valid sum.
-/
namespace Go.Proofs.YtiilopfhlmeaoaaGreatDoor
open Go.RowKit
namespace ArgI
open RowK Mem ArgM TextM

theorem names_asc {s : Sm} (h : sumV s = true) : SortM.Asc ((nms s).map fun n => n.data.toList) := by
  have ho := (sumV_iff.1 h).2.2.2
  refine List.pairwise_iff_getElem.2 (fun i j hi hj hij => ?_)
  have hi' : i < s.2.length := by simpa using hi
  have hj' : j < s.2.length := by simpa using hj
  have := asc_get ho i j _ _ hij (List.getElem?_eq_getElem hi') (List.getElem?_eq_getElem hj')
  simpa using this
theorem ok_names {s : Sm} (h : sumV s = true) : TextI.okB (nms s) = true := by
  obtain ⟨_, h2, h3, _⟩ := sumV_iff.1 h
  have hsrt : SortM.srt ((nms s).map fun n => n.data.toList) = (nms s).map fun n => n.data.toList := SortM.asc_unique (SortM.srt_asc _) (names_asc h) (fun x => SortM.mem_srt)
  have hd : NameS.dist (nms s) = true := by
    unfold NameS.dist
    rw [decide_eq_true_eq]
    have := congrArg List.length (SortM.srtB_data (nms s))
    rw [hsrt, List.length_map, List.length_map] at this
    exact this
  have hc : LinM.cntB ((nms s).length : Int) = true := LinM.cntB_iff.2 ⟨by omega, by simp only [nms, List.length_map]; omega⟩
  unfold TextI.okB
  rw [hc, hd, Bool.true_and, Bool.true_and]
  exact List.all_eq_true.2 fun n hn => by
    obtain ⟨t, ht, rfl⟩ := List.mem_map.1 hn
    exact intName_valid (termV_iff.1 (h3 t ht)).2.2
theorem inC_of_inF {x : Int} (h : ArithM.inF x = true) : ArithM.inC x = true := ArithM.inC_iff.2 (by have := ArithM.inF_iff.1 h; omega)
theorem vld_sum {s : Sm} (h : sumV s = true) : LinM.vldB s.1 (cfs s) ((nms s).length : Int) = true := by
  obtain ⟨h1, h2, h3, _⟩ := sumV_iff.1 h
  exact LinM.vldB_iff.2 ⟨⟨by omega, by simp only [nms, List.length_map]; omega⟩, by simp, inC_of_inF h1, fun x hx => by
    obtain ⟨t, ht, rfl⟩ := List.mem_map.1 hx
    exact inC_of_inF (termV_iff.1 (h3 t ht)).2.1⟩
theorem F_sum {s : Sm} (h : sumV s = true) : TextI.F (TextI.okB (nms s)) (nms s) s.1 (cfs s) = FS s := by
  have h1 := ok_names h
  have h2 := vld_sum h
  unfold TextI.F FS fmtS
  rw [if_pos ⟨h1, h2⟩, if_pos h]
/-- The coefficients laid so far. -/
def cpart (zs : List Int) (k : Nat) : List Int := zs.take k ++ List.replicate (zs.length - k) 0
theorem cpart_zero (zs : List Int) : cpart zs 0 = List.replicate zs.length 0 := by simp [cpart]
theorem cpart_all (zs : List Int) : cpart zs zs.length = zs := by simp [cpart]
theorem cpart_len (zs : List Int) (k : Nat) (h : k ≤ zs.length) : (cpart zs k).length = zs.length := by simp [cpart]; omega
theorem cpart_set (zs : List Int) (k : Nat) (h : k < zs.length) : (cpart zs k).set k zs[k] = cpart zs (k + 1) := by
  unfold cpart
  rw [List.set_append_right _ _ (by simp; omega), List.length_take, Nat.min_eq_left (by omega), Nat.sub_self, show zs.length - k = (zs.length - (k + 1)) + 1 by omega, List.replicate_succ, List.set_cons_zero, take_snoc h, List.append_assoc]
  rfl
theorem cpart_at (zs : List Int) (k : Nat) (h : k < zs.length) (h2 : k < (cpart zs k).length) : (cpart zs k)[k] = 0 := by
  have e : (cpart zs k)[k]? = some 0 := by
    unfold cpart
    rw [List.getElem?_append_right (by simp; omega), List.getElem?_replicate, if_pos (by simp; omega)]
  rw [List.getElem?_eq_getElem h2] at e
  exact Option.some.inj e
theorem part_at (ss : List ByteArray) (k : Nat) (h : k < ss.length) : (StrK.part ss k)[k]? = some (.string ByteArray.empty) := by
  unfold StrK.part
  rw [List.getElem?_append_right (by simp; omega), List.getElem?_replicate, if_pos (by simp; omega)]
theorem made_names (n : Nat) (hn : n ≤ 1000000000) : ∀ u : World, (Instr.makeSlice 34 (.int .i64 (n : Int)) (.int .i64 (n : Int))).run Tryz.prog u =
      .ok (.slice (some ⟨u.heap.size, 0, none⟩) n n) (u.alloc (.cells (madeCells #[.string ByteArray.empty] n) 9)) := fun u => by
  obtain ⟨i0, hi, hz0, hz1, hz2⟩ := info_parts StrK.strInfo
  have h := run_make (P := Tryz.prog) u 34 9 i0 (.string ByteArray.empty) Tryz.underlying34 hi hz0 .i64 .i64 (n : Int) (n : Int) (by omega) (Int.le_refl _) (by rw [hz2]; omega) (by omega)
  simpa [hz1, Value.cells] using h
theorem made_part (ss : List ByteArray) (hl : ss.length ≤ 1000000000) (u : World) : (u.alloc (.cells (madeCells #[.string ByteArray.empty] ss.length) 9)).ownsRow u.heap.size 9 1 (.slice (some ⟨u.heap.size, 0, none⟩) ss.length ss.length) ss.length (StrK.part ss 0) := by
  refine ⟨by simp [StrK.part], Or.inr ⟨u.heap.size, ss.length, _, rfl, Nat.le_refl _, heap_alloc_new _ _, Nat.le_refl _, by unfold maxLen; omega, by rw [← Lib.cellsOf_nil, Lib.cellsOf_size (by simp)]; simp, ?_⟩⟩
  rw [← Lib.cellsOf_nil, StrK.part_zero]
  simp [Lib.cellsOf]
/-- What the loop has laid: g0, g1: the stretch of the coefficients; bn: the names' block; bl: the expression's. -/
def Laid (w : World) (z : Int) (A G : Option Addr) (c cg g1 bl bn k : Nat) (ts : List (Int × ByteArray)) (wr : World) : Prop :=
  IntK.Own (w.heap.size + 1) g1 wr G (cpart (cfs (z, ts)) k) ∧ wr.ownsRow bn 9 1 (.slice (some ⟨bn, 0, none⟩) (nms (z, ts)).length (nms (z, ts)).length) (nms (z, ts)).length (StrK.part (nms (z, ts)) k) ∧
    Lvar wr bl #[.int .i64 z, .slice G ts.length cg] ∧ Lvar wr w.heap.size #[.int .i64 z, .slice A ts.length c] ∧ Below w.heap.size w wr ∧ bn < wr.heap.size

theorem Laid.step {w wr : World} {z x : Int} {A : Option Addr} {c cg g1 bl bn k bg og : Nat} {ts : List (Int × ByteArray)} {nm : ByteArray} (h : Laid w z A (some ⟨bg, og, none⟩) c cg g1 bl bn k ts wr) (hk : k < ts.length) (hx : ts[k] = (x, nm))
    (h1 : w.heap.size + 1 ≤ bg) (h2 : bg < g1) (h3 : g1 ≤ bl) (h4 : bl < bn) (o : Obj) : Laid w z A (some ⟨bg, og, none⟩) c cg g1 bl bn (k + 1) ts ((((wr.setCell ⟨bg, og + k, none⟩ (.int .i64 x)).setCell ⟨bn, k, none⟩ (.string nm)).alloc o).drew) := by
  obtain ⟨hO, hN, hL, hV, hb, hbn⟩ := h
  have hcl : (cfs (z, ts)).length = ts.length := by simp
  have hnl : (nms (z, ts)).length = ts.length := by simp
  have hck : (cfs (z, ts))[k]'(by rw [hcl]; exact hk) = x := by simp [hx]
  have hnk : (nms (z, ts))[k]'(by rw [hnl]; exact hk) = nm := by simp [hx]
  have hlz : k < (cpart (cfs (z, ts)) k).length := by rw [cpart_len _ _ (by rw [hcl]; omega), hcl]; exact hk
  have R5 := hO.1.store (k := k) (by rw [IntK.iv_len]; exact hlz) (.int .i64 x)
  have hset : (IntK.iv (cpart (cfs (z, ts)) k)).set k (.int .i64 x) = IntK.iv (cpart (cfs (z, ts)) (k + 1)) := by
    rw [← cpart_set (cfs (z, ts)) k (by rw [hcl]; exact hk), hck]
    simp [IntK.iv, List.map_set]
  rw [hset] at R5
  have O5 : IntK.Own (w.heap.size + 1) g1 (wr.setCell ⟨bg, og + k, none⟩ (.int .i64 x)) (some ⟨bg, og, none⟩) (cpart (cfs (z, ts)) (k + 1)) := ⟨R5, by
    have := hO.2.set ⟨bg, og + k, none⟩ (.int .i64 x)
    rw [cpart_len _ _ (by rw [hcl]; omega)] at this ⊢
    exact this⟩
  have m2 : Mod bn (bn + 1) (wr.setCell ⟨bg, og + k, none⟩ (.int .i64 x)) ((wr.setCell ⟨bg, og + k, none⟩ (.int .i64 x)).setCell ⟨bn, k, none⟩ (.string nm)) := Mod.set _ (p := ⟨bn, k, none⟩) (Nat.le_refl _) (Nat.lt_succ_self _) _
  have m1 : Mod bg (bg + 1) wr (wr.setCell ⟨bg, og + k, none⟩ (.int .i64 x)) := Mod.set _ (p := ⟨bg, og + k, none⟩) (Nat.le_refl _) (Nat.lt_succ_self _) _
  have tb : Below ((wr.setCell ⟨bg, og + k, none⟩ (.int .i64 x)).setCell ⟨bn, k, none⟩ (.string nm)).heap.size ((wr.setCell ⟨bg, og + k, none⟩ (.int .i64 x)).setCell ⟨bn, k, none⟩ (.string nm)) ((((wr.setCell ⟨bg, og + k, none⟩ (.int .i64 x)).setCell ⟨bn, k, none⟩ (.string nm)).alloc o).drew) := ((Below.refl _ _).alloc (Nat.le_refl _) o).drew
  have N5 := (hN.kept (StrK.only_set wr bg (og + k) (.int .i64 x)) (Or.inr (by simp [Value.ownBlock]; omega))).stored k (.string nm)
  have hps := StrK.part_set (nms (z, ts)) k (by rw [hnl]; exact hk)
  rw [hnk] at hps
  rw [hps] at N5
  refine ⟨(O5.keep m2 (Or.inl (by omega))).below tb, ?_, ((hL.keep m1 (by omega)).keep m2 (by omega)).below tb, ((hV.keep m1 (by omega)).keep m2 (by omega)).below tb, ?_, ?_⟩
  · exact N5.1.kept (StrK.only_below tb none) (Or.inr (by simp [Value.ownBlock]))
  · have h5 := (hb.setCell (p := ⟨bg, og + k, none⟩) (by show _ ≤ bg; omega) (.int .i64 x)).setCell (p := ⟨bn, k, none⟩) (by show _ ≤ bn; omega) (.string nm)
    exact h5.trans (tb.mono h5.size)
  · have := tb.size
    have h6 := m2.size
    have h7 := m1.size
    omega

set_option maxHeartbeats 1000000 in
set_option maxRecDepth 100000 in
theorem formatSum (z : Int) (A : Option Addr) (c : Nat) (ts : List (Int × ByteArray)) (w : World) (hA : ArgS term w A ts.length c ts) (hl : ts.length ≤ 1000000000) (hs : ∀ t ∈ ts, t.2.size ≤ 9223372036854775807) (htab : FmtI.Pow w) :
    Calls Tryz.prog 44 #[.agg #[.int .i64 z, .slice A ts.length c]] w fun e w' => e = .returned (.string ⟨(FS (z, ts)).toArray⟩) ∧ Below w.heap.size w w' := by
  have HV := Lib.hid (fun W (h : Below w.heap.size w W) => validSum z A c ts W (hA.below h) hl hs)
  have B0 := Lib.hid ((Below.refl w.heap.size w).alloc (Nat.le_refl _) (Obj.cells #[Value.int IntKind.i64 z, Value.slice A ts.length c] 50))
  have V0 := Lib.hid (Lvar.new w #[Value.int IntKind.i64 z, Value.slice A ts.length c] 50)
  cases hv : sumV (z, ts) with
  | false =>
    have HF : Hid (FS (z, ts) = []) := Lib.hid (by simp [FS, hv])
    rw [hv] at HV
    clear hv hA hl
    go_enter Tryz.func44, Tryz.ntmps44
    go_wp2_with fail
    refine (Calls.mono (HV.out _ B0.out)) ?_
    rintro e w1 ⟨rfl, b1⟩
    have B1 := Lib.hid (B0.out.trans (b1.mono B0.out.size))
    clear b1
    go_wp2
    go_ret
    exact ⟨TextI.ret_str HF.out.symm, B1.out⟩
  | true =>
    have hlen4 := (sumV_iff.1 hv).2.1
    have hz := ArithM.inF_iff.1 (sumV_iff.1 hv).1
    simp only at hlen4 hz
    have HF := Lib.hid (F_sum hv)
    have hnl : (nms (z, ts)).length = ts.length := by simp
    have hcl : (cfs (z, ts)).length = ts.length := by simp
    have HN8 := Lib.hid (fun s (h : s ∈ nms (z, ts)) => show s.size ≤ 9223372036854775807 by obtain ⟨t, ht, rfl⟩ := List.mem_map.1 h; exact hs t ht)
    have CO := Lib.hid (fun W => LinI.const z (ts.length : Int) W)
    have hcl0 : LinM.constL z (ts.length : Int) = (z, List.replicate ts.length 0) := by
      rw [LinM.constL, if_pos ⟨LinM.cntB_iff.2 ⟨by omega, by omega⟩, ArithM.inC_iff.2 (by omega)⟩, Int.toNat_natCast]
    rw [hcl0] at CO
    have hmk := made_names ts.length (by omega)
    have HA := Lib.hid hA
    rw [hv] at HV
    clear hv hA hs hcl0
    go_enter Tryz.func44, Tryz.ntmps44
    go_wp2_with fail
    refine (Calls.mono (HV.out _ B0.out)) ?_
    rintro e w1 ⟨rfl, b1⟩
    have B1 := Lib.hid (B0.out.trans (b1.mono B0.out.size))
    have V1 := Lib.hid (V0.out.below b1)
    have v0 := V1.out.cell 0 (.int .i64 z) rfl
    have v1 := V1.out.cell 1 (.slice A ts.length c) rfl
    have hs1 : w.heap.size + 1 ≤ w1.heap.size := by have := b1.size; simpa using this
    clear b1 V0 B0
    go_wp2_with fail
    refine (Calls.mono (CO.out _)) ?_
    rintro e w2 ⟨G, cg, rfl, rG, fG, b2⟩
    have B2 := Lib.hid (B1.out.trans (b2.mono B1.out.size))
    have V2 := Lib.hid (V1.out.below b2)
    have u0 := V2.out.cell 0 (.int .i64 z) rfl
    have u1 := V2.out.cell 1 (.slice A ts.length c) rfl
    have hs2 := b2.size
    have hwl2 : w.heap.size < w2.heap.size := by omega
    have OG := Lib.hid ((show IntK.Own (w.heap.size + 1) w2.heap.size w2 G (List.replicate ts.length 0) from ⟨rG.wider hs1 (Nat.le_refl _) (Nat.le_refl _), fG⟩))
    clear b2 rG fG V1 B1 v0 v1
    rw [List.length_replicate] at *
    have t3 : Below w2.heap.size w2 ((w2.alloc (Obj.cells #[Value.int .i64 z, Value.slice G ts.length cg] 82)).alloc (Obj.cells (madeCells #[.string ByteArray.empty] ts.length) 9)) := ((Below.refl _ _).alloc (Nat.le_refl _) _).alloc (by simp) _
    have hown0 := made_part (nms (z, ts)) (by rw [hnl]; omega) (w2.alloc (Obj.cells #[Value.int .i64 z, Value.slice G ts.length cg] 82))
    have hLn := (Lvar.new w2 #[Value.int .i64 z, Value.slice G ts.length cg] 82).alloc (Obj.cells (madeCells #[.string ByteArray.empty] ts.length) 9)
    have L0 := Lib.hid (show Laid w z A G c cg w2.heap.size w2.heap.size (w2.heap.size + 1) 0 ts ((w2.alloc (Obj.cells #[Value.int .i64 z, Value.slice G ts.length cg] 82)).alloc (Obj.cells (madeCells #[.string ByteArray.empty] ts.length) 9)) from
      ⟨by rw [cpart_zero, hcl]; exact OG.out.below t3, by rw [hnl] at hown0 ⊢; simpa using hown0, hLn, V2.out.below t3, B2.out.trans (t3.mono B2.out.size), by simp⟩)
    clear t3 hown0 hLn OG
    go_wp2
    go_loopw [23] (fun i wr => ∃ k : Nat, k ≤ ts.length ∧ i = .int .i64 k ∧ Laid w z A G c cg w2.heap.size w2.heap.size (w2.heap.size + 1) k ts wr) (fun i _ => ts.length - (intOf i).toNat)
    case atStart => exact ⟨0, Nat.zero_le _, rfl, L0.out⟩
    case round =>
      obtain ⟨k, hk, rfl, hLD⟩ := hrel
      have HLD := Lib.hid hLD
      obtain ⟨hO, hN, hL, hV, hb, hbn⟩ := hLD
      have HO := Lib.hid hO
      have HN := Lib.hid hN
      have HL := Lib.hid hL
      have HVV := Lib.hid hV
      have HB := Lib.hid hb
      have l0 := hL.cell 0 (.int .i64 z) rfl
      have l1 := hL.cell 1 (.slice G ts.length cg) rfl
      have q0 := hV.cell 0 (.int .i64 z) rfl
      have q1 := hV.cell 1 (.slice A ts.length c) rfl
      have hLl := hL.lt
      have hVl := hV.lt
      clear hO hN hL hV hb L0 V2 B2 u0 u1
      by_cases hlt : k < ts.length
      · obtain ⟨b, o, rfl, hbb, c0, c1⟩ := (HA.out.below HB.out).term_at hlt
        have HX := Lib.hid (show ∃ x nm, ts[k] = (x, nm) from ⟨_, _, rfl⟩)
        obtain ⟨x, nm, hx⟩ := HX.out
        have HXX := Lib.hid hx
        rw [hx] at c0 c1
        simp only at c0 c1
        clear hx HX
        have hlz : k < (cpart (cfs (z, ts)) k).length := by rw [cpart_len _ _ (by rw [hcl]; omega), hcl]; exact hlt
        obtain ⟨bg, og, eg, hbg, hcg⟩ := IntK.at_ HO.out.1 hlz
        subst eg
        have hfg := HO.out.2 (by omega) bg og rfl k hlz
        rw [cpart_at _ _ (by rw [hcl]; exact hlt)] at hcg
        have hcn : wr.cell? ⟨w2.heap.size + 1, k, none⟩ = some (.string ByteArray.empty) := by
          rw [HN.out.cellAt k (by rw [hnl]; omega)]
          exact part_at _ _ (by rw [hnl]; exact hlt)
        have hfn := HN.out.frozenAt k
        have hk0 : (0 : Int) ≤ (k : Int) := by omega
        have hk1 : (k : Int) < (ts.length : Int) := by omega
        have hbgl : bg < wr.heap.size := by omega
        have hne1 : bg ≠ wr.heap.size := by omega
        have hne2 : w2.heap.size + 1 ≠ wr.heap.size := by omega
        have hne3 : bg ≠ w2.heap.size + 1 := by omega
        have hne4 : bg ≠ w2.heap.size := by omega
        go_wp2_with fail
        go_region_law (fail)
        all_goals
          have LS := Lib.hid (HLD.out.step hlt HXX.out hbg.1 hbg.2.1 (Nat.le_refl _) (Nat.lt_succ_self _) (Obj.cells #[Value.int .i64 x, Value.string nm] 60))
          go_wp2
          go_roundw
          case rel => exact ⟨k + 1, by omega, by go_num, LS.out⟩
          case measure => simp [intOf]; omega
      · obtain rfl : k = ts.length := by omega
        have hO2 := HO.out
        have hN2 := HN.out
        rw [← hcl, cpart_all] at hO2
        rw [← hnl, StrK.part_all] at hN2
        obtain ⟨A2, cap2, e2, hr2, _⟩ := StrK.of_own hN2
        injection e2 with e3 e4 e5
        subst e3
        have FO := Lib.hid (TextI.format _ _ z G (some ⟨w2.heap.size + 1, 0, none⟩) cg ts.length (cfs (z, ts)) (nms (z, ts)) wr hO2.1 hr2 (by rw [hcl]; omega) (by rw [hnl]; omega) HN8.out (htab.below HB.out))
        rw [HF.out, hcl, hnl] at FO
        clear hO2 hN2 hr2
        go_wp2_with fail
        refine (Calls.mono FO.out) ?_
        rintro e w5 ⟨rfl, b5⟩
        have B5 := Lib.hid (HB.out.trans (b5.mono HB.out.size))
        clear b5
        go_wp2
        go_ret
        exact ⟨rfl, B5.out⟩
end ArgI
end Go.Proofs.YtiilopfhlmeaoaaGreatDoor
